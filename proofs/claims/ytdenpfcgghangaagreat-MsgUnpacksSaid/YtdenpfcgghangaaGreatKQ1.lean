/- Texts that the proof stands on: Package wire: stamps and acks, votes, denials as values; what writes into a writer. | Packages part and wire: what the writers of parts without lists write; the texts of stamps, acks, votes, denials. | A region that draws its order and stores at its end into blocks that it has read: two conditions on the world, one that holds all along, one that holds till a given operation has come up. Plain lemmas; no program. | Lists of structs or arrays that lie in memory: what their cells are; how one is loaded; how they are opened. | Package commit: Make. | A slice literal of one struct or array; an append of one onto a slice that the call owns. | Package part: lists of parts, and the parts that have lists: what each writes. | Package part: commitments, certificates, promises as values; what their writers write. | Package part: what its readers take off bytes. (written by gen_rp.py) | Names, configurations and commitments that come in: what their reading says of cells. | Commitments that come in: what their reading says of cells. | Stamps, acks, votes, denials, signatures that come in: what their reading says of cells. | Package part: promises as values; what their writers write; what is signed of one. | Package part: openings, tombstones, batches as values; what their writers write. | Package part: batches as values; what their writer writes. | Package wire: a batch's hash; what is signed of a promise, of a proposal. | Copies of lists of structs: gavelkeep's Copy and Cut of stamps. | The statements' own Cert and Promise: small enough to be played. | Commitments, stamps, denials, certificates, promises that come in: what their reading says of cells. | gavellaw05's Batch: a batch that is small enough to be played. (written by gen_cutb.py) -/
import Derived.Test.YtdenpfcgghangaaGreatCm3
import Derived.Test.YtdenpfcgghangaaGreatReg
import Derived.Test.YtdenpfcgghangaaGreatActs
import Derived.Test.YtdenpfcgghangaaGreatReg2
import Derived.Test.YtdenpfcgghangaaGreatCm4
import Derived.IntWalk
import Derived.Great.BuildSlice
import Derived.Deep.AppendLies
import Derived.Test.YtdenpfcgghangaaGreatRead
import Derived.Test.YtdenpfcgghangaaGreatOpen
import Derived.Test.YtdenpfcgghangaaGreatShaQ
set_option linter.unusedSimpArgs false
set_option linter.unusedVariables false
set_option maxRecDepth 100000

namespace Go.Proofs.YtdenpfcgghangaaGreat
open Go.RowKit
set_option maxRecDepth 100000
theorem post_cell (pre hs post : List Value) (hl : hs.length = 32) (k : Nat) {v : Value} (hv : post[k]? = some v) : (pre ++ (hs ++ post))[pre.length + 32 + k]? = some v := by
 rw [List.getElem?_append_right (by omega), List.getElem?_append_right (by omega), ← hv]
 congr 1
 omega
def Gr (w : World) (S : List Nat) (g : Nat) (l : List UInt8) (w' : World) : Prop := ∃ S', Wr w' S' g l ∧ Fr S w w' ∧ ∀ x ∈ S', x < w.heap.size → x ∈ S
theorem Gr.fr {w w' : World} {S : List Nat} {g : Nat} {l : List UInt8} (h : Gr w S g l w') : Fr S w w' := by obtain ⟨_, _, h, _⟩ := h; exact h
theorem Gr.refl {w : World} {S : List Nat} {g : Nat} {l : List UInt8} (h : Wr w S g l) : Gr w S g l w := ⟨S, h, Fr.refl _ _, fun _ h _ => h⟩
theorem Gr.trans {w w1 w2 : World} {S : List Nat} {g : Nat} {l l' : List UInt8} (h : Gr w S g l w1) (k : ∀ S1, Wr w1 S1 g l → Gr w1 S1 g l' w2) : Gr w S g l' w2 := by
 obtain ⟨S1, h1, h2, h3⟩ := h
 obtain ⟨S2, k1, k2, k3⟩ := k S1 h1
 exact ⟨S2, k1, h2.trans k2 h3, fun x hx hl => h3 x (k3 x hx (Nat.lt_of_lt_of_le hl h2.size)) hl⟩
theorem Gr.call {P : Program} {f : FuncId} {args : Array Value} {w w1 : World} {S : List Nat} {g : Nat} {l l' : List UInt8} {v : Value} (h : Gr w S g l w1)
  (hc : ∀ S1, Wr w1 S1 g l → Calls P f args w1 fun e w' => e = .returned v ∧ Gr w1 S1 g l' w') : Calls P f args w1 fun e w' => e = .returned v ∧ Gr w S g l' w' := by
 obtain ⟨S1, h1, h2, h3⟩ := h
 refine (hc S1 h1).mono ?_
 rintro e w' ⟨rfl, S2, k1, k2, k3⟩
 exact ⟨rfl, S2, k1, h2.trans k2 h3, fun x hx hl => h3 x (k3 x hx (Nat.lt_of_lt_of_le hl h2.size)) hl⟩
theorem Gr.drew {w w1 : World} {S : List Nat} {g : Nat} {l : List UInt8} (h : Gr w S g l w1) : Gr w S g l w1.drew := by
 obtain ⟨S1, h1, h2, h3⟩ := h
 exact ⟨S1, h1, h2.drew, h3⟩
theorem Gr.begin {w wa : World} {S : List Nat} {g : Nat} {l : List UInt8} (h : Wr w S g l) (hf : Fr [] w wa) : Gr wa S g l wa.drew := (Gr.refl (h.keep hf (by simp))).drew
theorem Gr.from_ {w wa w' : World} {S : List Nat} {g : Nat} {l : List UInt8} (h : Gr wa S g l w') (hf : Fr [] w wa) : Gr w S g l w' := by
 obtain ⟨S1, h1, h2, h3⟩ := h
 exact ⟨S1, h1, (hf.mono (T := S) (by simp)).trans h2 (fun x hx _ => hx), fun x hx hl => h3 x hx (Nat.lt_of_lt_of_le hl hf.size)⟩
theorem Gr.eq {w w' : World} {S : List Nat} {g : Nat} {l l' : List UInt8} (h : Gr w S g l w') (e : l = l') : Gr w S g l' w' := e ▸ h
theorem NewWr.gr {w0 w w' : World} {g : Nat} {l l' : List UInt8} (h : NewWr w0 w g l) (k : ∀ S, Wr w S g l → Gr w S g l' w') : NewWr w0 w' g l' := by
 obtain ⟨S, k1, k2, k3⟩ := h
 exact NewWr.add k2 k3 (k S k1)
theorem NewWr.call {P : Program} {f : FuncId} {args : Array Value} {w0 w : World} {g : Nat} {l l' : List UInt8} {v : Value} (h : NewWr w0 w g l)
  (hc : ∀ S, Wr w S g l → Calls P f args w fun e w' => e = .returned v ∧ Gr w S g l' w') : Calls P f args w fun e w' => e = .returned v ∧ NewWr w0 w' g l' := by
 obtain ⟨S, k1, k2, k3⟩ := h
 refine (hc S k1).mono ?_
 rintro e w' ⟨rfl, hg⟩
 exact ⟨rfl, NewWr.add k2 k3 hg⟩
structure Wst where
 r : Int
 c : Int
 s : Int
 h : List UInt8
 t : Nat
 b : Int
 m : Int
def Wst.cells (x : Wst) : List Value := [.int .i64 x.r, .int .i64 x.c, .int .i64 x.s] ++ (x.h.map by8 ++ [.int .u64 (x.t : Int), .int .i64 x.b, .int .i64 x.m])
def Wst.val (x : Wst) : Value := .agg x.cells.toArray
structure Wst.Ok (x : Wst) : Prop where
 r : i64In x.r
 c : i64In x.c
 s : i64In x.s
 h : x.h.length = 32
 t : x.t < 18446744073709551616
 b : i64In x.b
 m : i64In x.m
theorem Wst.len {x : Wst} (h : x.h.length = 32) : x.cells.length = 38 := by simp [Wst.cells, h]
theorem Wst.one (x : Wst) : ∀ v ∈ x.cells, v.oneCell' = true := by
 intro v hv
 simp only [Wst.cells, List.mem_cons, List.mem_append, List.not_mem_nil, or_false] at hv
 rcases hv with (rfl | rfl | rfl) | hv | rfl | rfl | rfl
 · rfl
 · rfl
 · rfl
 · exact by8_one x.h v hv
 · rfl
 · rfl
 · rfl
structure Wst.At (w : World) (g o : Nat) (x : Wst) : Prop where
 all : w.rangeAt g o x.cells
 hash : w.rangeAt g (o + 3) (x.h.map by8)
 name : w.rangeAt g (o + 1) [.int .i64 x.c, .int .i64 x.s]
 sig : w.rangeAt g (o + 36) [.int .i64 x.b, .int .i64 x.m]
 r : w.cell? ⟨g, o + 0, none⟩ = some (.int .i64 x.r)
 c : w.cell? ⟨g, o + 1, none⟩ = some (.int .i64 x.c)
 s : w.cell? ⟨g, o + 2, none⟩ = some (.int .i64 x.s)
 t : w.cell? ⟨g, o + 35, none⟩ = some (.int .u64 (x.t : Int))
 b : w.cell? ⟨g, o + 36, none⟩ = some (.int .i64 x.b)
 m : w.cell? ⟨g, o + 37, none⟩ = some (.int .i64 x.m)
theorem Wst.at_of {w : World} {g o : Nat} {x : Wst} (hr : w.rangeAt g o x.cells) (hh : x.h.length = 32) : x.At w g o := by
 have hl : (x.h.map by8).length = 32 := by rw [List.length_map]; exact hh
 have c_r : w.cell? ⟨g, o + 0, none⟩ = some (.int .i64 x.r) := hr 0 _ rfl
 have c_c : w.cell? ⟨g, o + 1, none⟩ = some (.int .i64 x.c) := hr 1 _ rfl
 have c_s : w.cell? ⟨g, o + 2, none⟩ = some (.int .i64 x.s) := hr 2 _ rfl
 have c_t : w.cell? ⟨g, o + 35, none⟩ = some (.int .u64 (x.t : Int)) := hr 35 _ (post_cell [.int .i64 x.r, .int .i64 x.c, .int .i64 x.s] (x.h.map by8) [.int .u64 (x.t : Int), .int .i64 x.b, .int .i64 x.m] hl 0 rfl)
 have c_b : w.cell? ⟨g, o + 36, none⟩ = some (.int .i64 x.b) := hr 36 _ (post_cell [.int .i64 x.r, .int .i64 x.c, .int .i64 x.s] (x.h.map by8) [.int .u64 (x.t : Int), .int .i64 x.b, .int .i64 x.m] hl 1 rfl)
 have c_m : w.cell? ⟨g, o + 37, none⟩ = some (.int .i64 x.m) := hr 37 _ (post_cell [.int .i64 x.r, .int .i64 x.c, .int .i64 x.s] (x.h.map by8) [.int .u64 (x.t : Int), .int .i64 x.b, .int .i64 x.m] hl 2 rfl)
 have r_name : w.rangeAt g (o + 1) [.int .i64 x.c, .int .i64 x.s] := by
  intro j v hv
  rcases j with _ | j
  · simp at hv; subst hv; exact c_c
  rcases j with _ | j
  · simp at hv; subst hv; exact c_s
  · simp at hv
 have r_sig : w.rangeAt g (o + 36) [.int .i64 x.b, .int .i64 x.m] := by
  intro j v hv
  rcases j with _ | j
  · simp at hv; subst hv; exact c_b
  rcases j with _ | j
  · simp at hv; subst hv; exact c_m
  · simp at hv
 have r_hash : w.rangeAt g (o + 3) (x.h.map by8) := rangeAt_sub (xs := [.int .i64 x.r, .int .i64 x.c, .int .i64 x.s]) (ys := x.h.map by8) (zs := [.int .u64 (x.t : Int), .int .i64 x.b, .int .i64 x.m]) hr
 exact ⟨hr, r_hash, r_name, r_sig, c_r, c_c, c_s, c_t, c_b, c_m⟩
theorem Wst.At.keep {w w' : World} {g o : Nat} {x : Wst} {S : List Nat} (h : x.At w g o) (hf : Fr S w w') (hn : ¬ g ∈ S) : x.At w' g o :=
 ⟨hf.range h.all hn, hf.range h.hash hn, hf.range h.name hn, hf.range h.sig hn, hf.cell h.r hn, hf.cell h.c hn, hf.cell h.s hn, hf.cell h.t hn, hf.cell h.b hn, hf.cell h.m hn⟩
structure Wvt where
 k : Int
 e : Int
 r : Int
 p : Int
 h : List UInt8
 b : Int
 m : Int
def Wvt.cells (x : Wvt) : List Value := [.int .i64 x.k, .int .i64 x.e, .int .i64 x.r, .int .i64 x.p] ++ (x.h.map by8 ++ [.int .i64 x.b, .int .i64 x.m])
def Wvt.val (x : Wvt) : Value := .agg x.cells.toArray
structure Wvt.Ok (x : Wvt) : Prop where
 k : i64In x.k
 e : i64In x.e
 r : i64In x.r
 p : i64In x.p
 h : x.h.length = 32
 b : i64In x.b
 m : i64In x.m
theorem Wvt.len {x : Wvt} (h : x.h.length = 32) : x.cells.length = 38 := by simp [Wvt.cells, h]
theorem Wvt.one (x : Wvt) : ∀ v ∈ x.cells, v.oneCell' = true := by
 intro v hv
 simp only [Wvt.cells, List.mem_cons, List.mem_append, List.not_mem_nil, or_false] at hv
 rcases hv with (rfl | rfl | rfl | rfl) | hv | rfl | rfl
 · rfl
 · rfl
 · rfl
 · rfl
 · exact by8_one x.h v hv
 · rfl
 · rfl
structure Wvt.At (w : World) (g o : Nat) (x : Wvt) : Prop where
 all : w.rangeAt g o x.cells
 hash : w.rangeAt g (o + 4) (x.h.map by8)
 sig : w.rangeAt g (o + 36) [.int .i64 x.b, .int .i64 x.m]
 k : w.cell? ⟨g, o + 0, none⟩ = some (.int .i64 x.k)
 e : w.cell? ⟨g, o + 1, none⟩ = some (.int .i64 x.e)
 r : w.cell? ⟨g, o + 2, none⟩ = some (.int .i64 x.r)
 p : w.cell? ⟨g, o + 3, none⟩ = some (.int .i64 x.p)
 b : w.cell? ⟨g, o + 36, none⟩ = some (.int .i64 x.b)
 m : w.cell? ⟨g, o + 37, none⟩ = some (.int .i64 x.m)
theorem Wvt.at_of {w : World} {g o : Nat} {x : Wvt} (hr : w.rangeAt g o x.cells) (hh : x.h.length = 32) : x.At w g o := by
 have hl : (x.h.map by8).length = 32 := by rw [List.length_map]; exact hh
 have c_k : w.cell? ⟨g, o + 0, none⟩ = some (.int .i64 x.k) := hr 0 _ rfl
 have c_e : w.cell? ⟨g, o + 1, none⟩ = some (.int .i64 x.e) := hr 1 _ rfl
 have c_r : w.cell? ⟨g, o + 2, none⟩ = some (.int .i64 x.r) := hr 2 _ rfl
 have c_p : w.cell? ⟨g, o + 3, none⟩ = some (.int .i64 x.p) := hr 3 _ rfl
 have c_b : w.cell? ⟨g, o + 36, none⟩ = some (.int .i64 x.b) := hr 36 _ (post_cell [.int .i64 x.k, .int .i64 x.e, .int .i64 x.r, .int .i64 x.p] (x.h.map by8) [.int .i64 x.b, .int .i64 x.m] hl 0 rfl)
 have c_m : w.cell? ⟨g, o + 37, none⟩ = some (.int .i64 x.m) := hr 37 _ (post_cell [.int .i64 x.k, .int .i64 x.e, .int .i64 x.r, .int .i64 x.p] (x.h.map by8) [.int .i64 x.b, .int .i64 x.m] hl 1 rfl)
 have r_sig : w.rangeAt g (o + 36) [.int .i64 x.b, .int .i64 x.m] := by
  intro j v hv
  rcases j with _ | j
  · simp at hv; subst hv; exact c_b
  rcases j with _ | j
  · simp at hv; subst hv; exact c_m
  · simp at hv
 have r_hash : w.rangeAt g (o + 4) (x.h.map by8) := rangeAt_sub (xs := [.int .i64 x.k, .int .i64 x.e, .int .i64 x.r, .int .i64 x.p]) (ys := x.h.map by8) (zs := [.int .i64 x.b, .int .i64 x.m]) hr
 exact ⟨hr, r_hash, r_sig, c_k, c_e, c_r, c_p, c_b, c_m⟩
theorem Wvt.At.keep {w w' : World} {g o : Nat} {x : Wvt} {S : List Nat} (h : x.At w g o) (hf : Fr S w w') (hn : ¬ g ∈ S) : x.At w' g o :=
 ⟨hf.range h.all hn, hf.range h.hash hn, hf.range h.sig hn, hf.cell h.k hn, hf.cell h.e hn, hf.cell h.r hn, hf.cell h.p hn, hf.cell h.b hn, hf.cell h.m hn⟩
structure Wdn where
 r : Int
 i : Int
 b : Int
 m : Int
def Wdn.cells (x : Wdn) : List Value := [.int .i64 x.r, .int .i64 x.i, .int .i64 x.b, .int .i64 x.m]
def Wdn.val (x : Wdn) : Value := .agg x.cells.toArray
structure Wdn.Ok (x : Wdn) : Prop where
 r : i64In x.r
 i : i64In x.i
 b : i64In x.b
 m : i64In x.m
theorem Wdn.len (x : Wdn) : x.cells.length = 4 := rfl
theorem Wdn.one (x : Wdn) : ∀ v ∈ x.cells, v.oneCell' = true := by
 intro v hv
 simp only [Wdn.cells, List.mem_cons, List.not_mem_nil, or_false] at hv
 rcases hv with rfl | rfl | rfl | rfl <;> rfl
structure Wdn.At (w : World) (g o : Nat) (x : Wdn) : Prop where
 all : w.rangeAt g o x.cells
 sig : w.rangeAt g (o + 2) [.int .i64 x.b, .int .i64 x.m]
 r : w.cell? ⟨g, o + 0, none⟩ = some (.int .i64 x.r)
 i : w.cell? ⟨g, o + 1, none⟩ = some (.int .i64 x.i)
 b : w.cell? ⟨g, o + 2, none⟩ = some (.int .i64 x.b)
 m : w.cell? ⟨g, o + 3, none⟩ = some (.int .i64 x.m)
theorem Wdn.at_of {w : World} {g o : Nat} {x : Wdn} (hr : w.rangeAt g o x.cells) : x.At w g o := by
 have c_r : w.cell? ⟨g, o + 0, none⟩ = some (.int .i64 x.r) := hr 0 _ rfl
 have c_i : w.cell? ⟨g, o + 1, none⟩ = some (.int .i64 x.i) := hr 1 _ rfl
 have c_b : w.cell? ⟨g, o + 2, none⟩ = some (.int .i64 x.b) := hr 2 _ rfl
 have c_m : w.cell? ⟨g, o + 3, none⟩ = some (.int .i64 x.m) := hr 3 _ rfl
 have r_sig : w.rangeAt g (o + 2) [.int .i64 x.b, .int .i64 x.m] := by
  intro j v hv
  rcases j with _ | j
  · simp at hv; subst hv; exact c_b
  rcases j with _ | j
  · simp at hv; subst hv; exact c_m
  · simp at hv
 exact ⟨hr, r_sig, c_r, c_i, c_b, c_m⟩
theorem Wdn.At.keep {w w' : World} {g o : Nat} {x : Wdn} {S : List Nat} (h : x.At w g o) (hf : Fr S w w') (hn : ¬ g ∈ S) : x.At w' g o :=
 ⟨hf.range h.all hn, hf.range h.sig hn, hf.cell h.r hn, hf.cell h.i hn, hf.cell h.b hn, hf.cell h.m hn⟩
theorem row_stamp : RowTy Tryz.prog 32 38 := ⟨by kernel_rfl, by kernel_rfl⟩
theorem row_deny : RowTy Tryz.prog 56 4 := ⟨by kernel_rfl, by kernel_rfl⟩
end Go.Proofs.YtdenpfcgghangaaGreat

namespace Go.Proofs.YtdenpfcgghangaaGreat
open Go.RowKit
set_option maxRecDepth 100000
def sgL (b m : Int) : List UInt8 := encI b ++ encI m
def nmL (c s : Int) : List UInt8 := encI c ++ encI s
def Wst.bare (x : Wst) : List UInt8 := encI x.r ++ nmL x.c x.s ++ x.h ++ enc x.t
def Wst.full (x : Wst) : List UInt8 := x.bare ++ sgL x.b x.m
theorem Wst.bare_len {x : Wst} (hx : x.Ok) : x.bare.length ≤ 72 := by
 have b0 := encI_len x.r hx.r.2
 have b1 := encI_len x.c hx.c.2
 have b2 := encI_len x.s hx.s.2
 have b3 := hx.h
 have b4 := enc_ten hx.t
 simp only [Wst.bare, nmL, List.length_append]
 omega
def Wvt.bare (x : Wvt) : List UInt8 := encI x.k ++ encI x.e ++ encI x.r ++ encI x.p ++ x.h
def Wvt.full (x : Wvt) : List UInt8 := x.bare ++ sgL x.b x.m
theorem Wvt.bare_len {x : Wvt} (hx : x.Ok) : x.bare.length ≤ 72 := by
 have b0 := encI_len x.k hx.k.2
 have b1 := encI_len x.e hx.e.2
 have b2 := encI_len x.r hx.r.2
 have b3 := hx.h
 have b4 := encI_len x.p hx.p.2
 simp only [Wvt.bare, List.length_append]
 omega
def Wdn.bare (x : Wdn) : List UInt8 := encI x.r ++ encI x.i
def Wdn.full (x : Wdn) : List UInt8 := x.bare ++ sgL x.b x.m
theorem Wdn.bare_len {x : Wdn} (hx : x.Ok) : x.bare.length ≤ 72 := by
 have b0 := encI_len x.r hx.r.2
 have b1 := encI_len x.i hx.i.2
 simp only [Wdn.bare, List.length_append]
 omega
def wWst : List UInt8 := [115, 116, 97, 109, 112]
def Wst.text (x : Wst) : List UInt8 := enc wWst.length ++ wWst ++ x.bare
def wWvt : List UInt8 := [118, 111, 116, 101]
def Wvt.text (x : Wvt) : List UInt8 := enc wWvt.length ++ wWvt ++ x.bare
def wWdn : List UInt8 := [100, 101, 110, 121]
def Wdn.text (x : Wdn) : List UInt8 := enc wWdn.length ++ wWdn ++ x.bare
end Go.Proofs.YtdenpfcgghangaaGreat

namespace Go.Proofs.YtdenpfcgghangaaGreat
open Go.RowKit
set_option maxRecDepth 100000
def Cl (md : Region.Mode) (ops : Array Oper) (L : Array Bool) : Prop :=
 ∀ j oj, ops[j]? = some oj → L.getD j false = true → ∀ e ∈ oj.after, Region.binds md e = true → L.getD e.on false = true
def awaits (md : Region.Mode) (ops : Array Oper) : Nat → Nat → Nat → Bool
 | 0, _, _ => false
 | f + 1, k, i => match ops[k]? with
   | none => false
   | some o => o.after.any fun e => Region.binds md e && (e.on == i || awaits md ops f e.on i)
theorem awaits_listed {md : Region.Mode} {ops : Array Oper} {L : Array Bool} (hc : Cl md ops L) : ∀ (f k i : Nat), awaits md ops f k i = true → L.getD k false = true → L.getD i false = true
 | 0, _, _, h, _ => by simp [awaits] at h
 | f + 1, k, i, h, hk => by
   unfold awaits at h
   cases ho : ops[k]? with
   | none => rw [ho] at h; simp at h
   | some o =>
     rw [ho] at h
     simp only [Array.any_eq_true] at h
     obtain ⟨n, hn, hb⟩ := h
     simp only [Bool.and_eq_true, Bool.or_eq_true, beq_iff_eq] at hb
     have hl := hc k o ho hk _ (Array.getElem_mem hn) hb.1
     rcases hb.2 with h2 | h2
     · rw [← h2]; exact hl
     · exact awaits_listed hc f _ _ h2 hl
theorem getD_two {L : Array Bool} {i : Nat} (h : L.getD i true = false) : L.getD i false = false := by
 rcases Nat.lt_or_ge i L.size with h' | h'
 · simpa [h'] using h
 · simp [Array.getElem?_eq_none h']
theorem pending {md : Region.Mode} {ops : Array Oper} {T i : Nat} (h : awaits md ops ops.size T i = true) (L : Array Bool) (hc : Cl md ops L) (hp : L.getD i true = false) : L.getD T false = false := by
 cases ht : L.getD T false with
 | false => rfl
 | true =>
   have h1 := awaits_listed hc _ _ _ h ht
   rw [getD_two hp] at h1
   cases h1
def wpTill (P : Program) (md : Region.Mode) (ops : Array Oper) (Q : Exit → Act → World → Prop) (T : Nat) (A B : World → Prop) : Nat → Array Bool → Act → World → Prop
 | 0, L, a, w => Region.ready md ops L = [] ∧ Q .normal a w
 | f + 1, L, a, w => (Region.ready md ops L = [] → Q .normal a w) ∧
   ∀ i ∈ Region.ready md ops L, wpOp P ops Q i (fun a' w' => (A w' ∧ ((L.setIfInBounds i true).getD T false = false → B w')) ∧ wpTill P md ops Q T A B f (L.setIfInBounds i true) a' w') a w
section
variable {P : Program} {ops : Array Oper} {Q : Exit → Act → World → Prop} {md : Region.Mode} {T : Nat} {A B : World → Prop}
theorem wpAny_of_till : ∀ (f : Nat) (L : Array Bool) (a : Act) (w : World), wpTill P md ops Q T A B f L a w → wpAny P md ops Q f L a w
 | 0, _, _, _, h => h
 | f + 1, _, _, _, h => ⟨h.1, fun i hi => wpOp_mono (fun a' w' h' => wpAny_of_till f _ a' w' h'.2) (h.2 i hi)⟩
theorem Cl.set {L : Array Bool} (hc : Cl md ops L) {i : Nat} (hi : i ∈ Region.ready md ops L) : Cl md ops (L.setIfInBounds i true) := by
 obtain ⟨_, oi, hoi, hall⟩ := mem_ready.1 hi
 intro j oj hj hl e he hb
 have up : ∀ k, L.getD k false = true → (L.setIfInBounds i true).getD k false = true := fun k hk => by
  by_cases hik : i = k
  · subst hik
    rcases Nat.lt_or_ge i L.size with h' | h'
    · simp [h']
    · simp [Array.getElem?_eq_none h'] at hk
  · rw [getD_set_ne false hik]; exact hk
 by_cases hij : i = j
 · subst hij
   have : oi = oj := Option.some.inj (hoi.symm.trans hj)
   subst this
   exact up _ (hall e he hb)
 · rw [getD_set_ne false hij] at hl
   exact up _ (hc j oj hj hl e he hb)
theorem till_take {i : Nat} {oi : Oper} {v : Value} (hi : ops[i]? = some oi) (hs : Region.noSelect ops = true) (hiT : i ≠ T) (hp : awaits md ops ops.size T i = true) (hQ : ∀ c a w, Q (.panic c) (a.put oi.dst v) w → Q (.panic c) a w) :
  ∀ (f : Nat) (L : Array Bool) (a : Act) (w : World), (∀ j oj, ops[j]? = some oj → j ≠ i → L.getD j true = false → (∀ e ∈ oj.after, Region.binds md e = true → e.on ≠ i) → oi.apart ops oj = true) →
   Cl md ops L → i ∈ Region.ready md ops L → YieldsIf P ops (fun w => A w ∧ B w) oi v a → A w → B w →
   wpTill P md ops Q T A B f (L.setIfInBounds i true) (a.put oi.dst v) w → wpTill P md ops Q T A B (f + 1) L a w := by
 have hsel := Region.noSelect_spec hs
 intro f
 induction f with
 | zero =>
   intro L a w _ _ hr hy hA hB H
   refine ⟨fun h => (by rw [h] at hr; cases hr), fun j hj => ?_⟩
   by_cases hji : j = i
   · subst hji; exact hy.wpOp hi ⟨hA, hB⟩ ⟨⟨hA, fun _ => hB⟩, H⟩
   · have h0 := ready_mono hj hji
     rw [H.1] at h0
     cases h0
 | succ f ih =>
   intro L a w hap hc hr hy hA hB H
   refine ⟨fun h => (by rw [h] at hr; cases hr), fun j hj => ?_⟩
   by_cases hji : j = i
   · subst hji; exact hy.wpOp hi ⟨hA, hB⟩ ⟨⟨hA, fun _ => hB⟩, H⟩
   · obtain ⟨hjun, oj, hoj, hall⟩ := mem_ready.1 hj
     have hiun := (mem_ready.1 hr).1
     have hno : ∀ e ∈ oj.after, Region.binds md e = true → e.on ≠ i := fun e he hb heq => by
      have h1 := hall e he hb
      rw [heq, getD_two hiun] at h1
      cases h1
     have h2 := wpOp_putIf hoj (hap j oj hoj hji hjun hno) (hsel i oi · · hi) (hsel j oj · · hoj) hQ hy (H.2 j (ready_mono hj hji))
     have hap' : ∀ k ok, ops[k]? = some ok → k ≠ i → (L.setIfInBounds j true).getD k true = false → (∀ e ∈ ok.after, Region.binds md e = true → e.on ≠ i) → oi.apart ops ok = true := fun k ok hk hki hun => by
      refine hap k ok hk hki ?_
      by_cases hjk : j = k
      · subst hjk; exact hjun
      · rwa [getD_set_ne true hjk] at hun
     have hr' := ready_mono hr (Ne.symm hji)
     have hc' := hc.set hj
     refine wpOp_mono (fun a' w' h3 => ?_) h2
     obtain ⟨hy', ⟨hA', hB'⟩, h4⟩ := h3
     rw [Array.setIfInBounds_comm _ _ (Ne.symm hji)] at h4 hB'
     have hT := pending hp _ hc' (mem_ready.1 hr').1
     have hB'' := hB' (by rw [getD_set_ne false hiT]; exact hT)
     exact ⟨⟨hA', fun _ => hB''⟩, ih (L.setIfInBounds j true) a' w' hap' hc' hr' hy' hA' hB'' h4⟩
end
def clB (md : Region.Mode) (ops : Array Oper) (L : Array Bool) : Bool :=
 (List.range ops.size).all fun j => !L.getD j false || match ops[j]? with
   | none => true
   | some o => o.after.all fun e => !Region.binds md e || L.getD e.on false
theorem Cl.of {md : Region.Mode} {ops : Array Oper} {L : Array Bool} (h : clB md ops L = true) : Cl md ops L := by
 intro j oj hj hl e he hb
 have h1 := List.all_eq_true.1 h j (List.mem_range.2 (Array.getElem?_eq_some_iff.1 hj).1)
 rw [hj, hl] at h1
 simp only [Bool.not_true, Bool.false_or] at h1
 have h2 := Array.all_eq_true_iff_forall_mem.1 h1 e he
 rw [hb] at h2
 simpa using h2
def tillOk (md : Region.Mode) (ops : Array Oper) (T : Nat) (L : Array Bool) (i : Nat) : Bool :=
 takeOk md ops L i && clB md ops L && awaits md ops ops.size T i && !(i == T)
section
variable {P : Program} {l : List Oper} {Q : Exit → Act → World → Prop} {md : Region.Mode} {T : Nat} {A B : World → Prop} {fuel : Nat} {L : Array Bool} {a : Act} {w : World}
theorem till_at {i : Nat} {oi : Oper} {v : Value} (hi : nthOp l i = some oi) (ht : tillOk md l.toArray T L i = true)
  (hQ : ∀ c a w, Q (.panic c) (a.put oi.dst v) w → Q (.panic c) a w) (hy : YieldsIf P l.toArray (fun w => A w ∧ B w) oi v a) (hA : A w) (hB : B w)
  (h : wpTill P md l.toArray Q T A B fuel (L.setIfInBounds i true) (a.put oi.dst v) w) : wpTill P md l.toArray Q T A B (fuel + 1) L a w := by
 unfold tillOk takeOk at ht
 simp only [Bool.and_eq_true, Bool.not_eq_true', beq_eq_false_iff_ne] at ht
 obtain ⟨⟨⟨⟨⟨h1, h2⟩, h3⟩, h4⟩, h5⟩, h6⟩ := ht
 have hi' : l.toArray[i]? = some oi := by rw [List.getElem?_toArray, nthOp_eq, hi]
 exact till_take hi' h1 h6 h5 hQ fuel L a w (Region.free_spec hi' h2) (Cl.of h4) (by simpa using h3) hy hA hB h
theorem till_run {i : Nat} {oi : Oper} (hi : nthOp l i = some oi) (ht : tillOk md l.toArray T L i = true) (hw : Region.wanted oi (yielded l.toArray a.tmps) = true) {v : Value}
  (hQ : ∀ c a w, Q (.panic c) (a.put oi.dst v) w → Q (.panic c) a w) (hA : A w) (hB : B w) (hy : ∀ w1, B w1 → (execOp a.eval oi).run P w1 = .ok (.value v) w1)
  (h : wpTill P md l.toArray Q T A B fuel (L.setIfInBounds i true) (a.put oi.dst v) w) : wpTill P md l.toArray Q T A B (fuel + 1) L a w :=
 till_at hi ht hQ (.inl ⟨hw, fun w1 h1 => hy w1 h1.2⟩) hA hB h
theorem till_row {i : Nat} {oi : Oper} (hi : nthOp l i = some oi) (ht : tillOk md l.toArray T L i = true) (hw : Region.wanted oi (yielded l.toArray a.tmps) = true)
  (ty : TypeId) (x : Operand) (ho : oi.op = .load ty x) (b o : Nat) (hx : a.eval x = .pointer (some ⟨b, o, none⟩)) (cs : List Value) (hc : ∀ w1, B w1 → w1.rangeAt b o cs) (hr : RowTy P ty cs.length)
  (hQ : ∀ c a w, Q (.panic c) (a.put oi.dst (.agg cs.toArray)) w → Q (.panic c) a w) (hA : A w) (hB : B w)
  (h : wpTill P md l.toArray Q T A B fuel (L.setIfInBounds i true) (a.put oi.dst (.agg cs.toArray)) w) : wpTill P md l.toArray Q T A B (fuel + 1) L a w := by
 obtain ⟨h1, h2⟩ := hr
 cases hu : P.underlying ty with
 | none => rw [hu] at h1; cases h1
 | some d =>
   rw [hu] at h1
   exact till_at hi ht hQ (yieldsIf_load_mid hw ty x ho b o hx cs d (fun w1 h1 => hc w1 h1.2) hu (by simpa using h1) h2) hA hB h
theorem till_one {i : Nat} {o : Oper} (hi : nthOp l i = some o) (hr : Region.ready md l.toArray L = [i]) (hw : Region.wanted o (yielded l.toArray a.tmps) = true)
  (h : Oper.wp P o a w (fun a' w' => (A w' ∧ ((L.setIfInBounds i true).getD T false = false → B w')) ∧ wpTill P md l.toArray Q T A B fuel (L.setIfInBounds i true) a' w') Q) : wpTill P md l.toArray Q T A B (fuel + 1) L a w := by
 refine ⟨fun h0 => (by rw [hr] at h0; cases h0), fun j hj => ?_⟩
 rw [hr] at hj
 obtain rfl : j = i := by simpa using hj
 unfold wpOp
 rw [List.getElem?_toArray, nthOp_eq, hi]
 simp only [hw, if_true]
 exact .inl h
theorem till_call {i : Nat} {o : Oper} (hi : nthOp l i = some o) (hr : Region.ready md l.toArray L = [i]) (hw : Region.wanted o (yielded l.toArray a.tmps) = true)
  {f : FuncId} {args : Array Value} (he : (execOp a.eval o).run P w = .ok (.enter f args) w)
  (h : Calls P f args w fun e w' => ∃ v, e = .returned v ∧ (A w' ∧ B w') ∧ (B w' → wpTill P md l.toArray Q T A B fuel (L.setIfInBounds i true) (a.put o.dst v) w')) : wpTill P md l.toArray Q T A B (fuel + 1) L a w := by
 refine till_one hi hr hw (wp_call he (h.mono ?_))
 rintro e w' ⟨v, rfl, h1, h2⟩
 exact ⟨v, rfl, ⟨h1.1, fun _ => h1.2⟩, h2 h1.2⟩
theorem till_step {i : Nat} {o : Oper} (hi : nthOp l i = some o) (hr : Region.ready md l.toArray L = [i]) (hT : (L.setIfInBounds i true).getD T false = true) (hw : Region.wanted o (yielded l.toArray a.tmps) = true)
  (h : ∀ K : Act → World → Prop, Shut (∀ a w, A w → (A w → wpTill P md l.toArray Q T A B fuel (L.setIfInBounds i true) a w) → K a w) → Oper.wp P o a w K Q) : wpTill P md l.toArray Q T A B (fuel + 1) L a w :=
 till_one hi hr hw (h _ (fun a w hA hW => ⟨⟨hA, fun h0 => (by rw [hT] at h0; cases h0)⟩, hW hA⟩))
theorem till_done (hr : Region.ready md l.toArray L = []) (h : Q .normal a w) : ∀ fuel, wpTill P md l.toArray Q T A B fuel L a w
 | 0 => ⟨hr, h⟩
 | _ + 1 => ⟨fun _ => h, by rw [hr]; simp⟩
theorem wp_region_till {id : Nat} (T : Nat) (A B : World → Prop) (hm : P.follows .mixedOrders = true) (hA : A w.drew) (hB : B w.drew)
  (h : A w.drew → B w.drew → wpTill P .any l.toArray Q T A B l.toArray.size (Array.replicate l.toArray.size false) a w.drew) : (Code.region id l.toArray true).wp P Q a w :=
 wp_region_any hm (wpAny_of_till _ _ _ _ (h hA hB))
end
end Go.Proofs.YtdenpfcgghangaaGreat

namespace Go.Proofs.YtdenpfcgghangaaGreat
open Go.RowKit
set_option maxRecDepth 100000
def Lst {α : Type} (k : Nat) (cells : α → List Value) (ok : World → α → Prop) (w : World) (A : Option Addr) (n : Nat) (l : List α) : Prop :=
 l.length = n ∧ (∀ v ∈ l, (cells v).length = k ∧ ok w v) ∧ (0 < n → ∃ ad, A = some ad ∧ ∀ i v, l[i]? = some v → ∀ j x, (cells v)[j]? = some x → w.cell? (ad.add (i * k + j)) = some x)
section
variable {α : Type} {k : Nat} {cells : α → List Value} {ok : World → α → Prop} {w w' : World} {A : Option Addr} {n : Nat} {l : List α} {S : List Nat}
theorem Lst.nil (A : Option Addr) : Lst k cells ok w A 0 [] := ⟨rfl, by simp, fun h => absurd h (by omega)⟩
theorem Lst.keep (h : Lst k cells ok w A n l) (hf : Fr S w w') (hA : ∀ a, A = some a → ¬ a.block ∈ S) (hok : ∀ v ∈ l, ok w v → ok w' v) : Lst k cells ok w' A n l :=
 ⟨h.1, fun v hv => ⟨(h.2.1 v hv).1, hok v hv (h.2.1 v hv).2⟩, fun hn => by
  obtain ⟨ad, e, hc⟩ := h.2.2 hn
  exact ⟨ad, e, fun i v hv j x hx => hf.cell (hc i v hv j x hx) (by rw [add_block]; exact hA ad e)⟩⟩
theorem Lst.at (h : Lst k cells ok w A n l) {i : Nat} (hi : i < n) : ∃ ad v, A = some ad ∧ l[i]? = some v ∧ (cells v).length = k ∧ ok w v ∧ ∀ j x, (cells v)[j]? = some x → w.cell? ((ad.add (i * k)).add j) = some x := by
 obtain ⟨ad, e, hc⟩ := h.2.2 (by omega)
 have hl : i < l.length := by rw [h.1]; exact hi
 have hv := List.getElem?_eq_getElem hl
 obtain ⟨h1, h2⟩ := h.2.1 _ (List.mem_of_getElem? hv)
 exact ⟨ad, l[i], e, hv, h1, h2, fun j x hx => by rw [add_add]; exact hc i _ hv j x hx⟩
theorem Lst.take (h : Lst k cells ok w A n l) {m : Nat} (hm : m ≤ n) : Lst k cells ok w A m (l.take m) :=
 ⟨by rw [List.length_take, h.1]; omega, fun v hv => h.2.1 v (List.mem_of_mem_take hv), fun h0 => by
  obtain ⟨ad, e, hc⟩ := h.2.2 (by omega)
  exact ⟨ad, e, fun i v hv j x hx => hc i v (by
   rw [List.getElem?_take] at hv
   split at hv
   · exact hv
   · cases hv) j x hx⟩⟩
theorem flat_at {l : List α} (hk : ∀ v ∈ l, (cells v).length = k) : ∀ {i : Nat} {v : α} {j : Nat} {x : Value}, l[i]? = some v → (cells v)[j]? = some x → (l.flatMap cells)[i * k + j]? = some x := by
 induction l with
 | nil => intro i v j x hv; simp at hv
 | cons y ys ih =>
   intro i v j x hv hx
   have hy := hk y (by simp)
   rw [List.flatMap_cons]
   cases i with
   | zero =>
     simp at hv
     subst hv
     rw [Nat.zero_mul, Nat.zero_add, List.getElem?_append_left (List.getElem?_eq_some_iff.1 hx).1]
     exact hx
   | succ i =>
     rw [List.getElem?_append_right (by rw [hy, Nat.succ_mul]; omega), hy, show (i + 1) * k + j - k = i * k + j by rw [Nat.succ_mul]; omega]
     exact ih (fun v hv => hk v (by simp [hv])) (by simpa using hv) hx
theorem Lst.of_own {base : Nat} {e : TypeId} {c : Nat} (h : w.ownsRow base e k (.slice A n c) n (l.flatMap cells)) (hl : l.length = n) (hk : ∀ v ∈ l, (cells v).length = k ∧ ok w v) : Lst k cells ok w A n l := by
 refine ⟨hl, hk, fun hn => ?_⟩
 by_cases hk0 : k = 0
 · rcases h.2 with ⟨_, h0⟩ | ⟨g, cap, cur, hv, _⟩
   · omega
   · injection hv with hA
     exact ⟨_, hA, fun i v hv j x hx => by have := (hk v (List.mem_of_getElem? hv)).1; have := (List.getElem?_eq_some_iff.1 hx).1; omega⟩
 · obtain ⟨g, cap, hv, _, hlt⟩ := h.form hn
   have hA : A = some ⟨g, 0, none⟩ := by injection hv
   subst hA
   refine ⟨_, rfl, fun i v hv j x hx => ?_⟩
   exact h.cells (g := g) rfl _ _ (flat_at (fun v hv => (hk v hv).1) hv hx)
end
theorem lst_of_trod {α : Type} [Inhabited α] {H : Type} {enc : TypeId × Value → H} {w : World} {spare : Nat → Bool} {held : Bool} {k : Nat} {cells : α → List Value} {ok : World → α → Prop} {t e : TypeId} (ht : Tryz.prog.underlying t = some (.slice e)) (hc : Tryz.prog.cellsOf e = k)
  (hel : ∀ fuel cs (x : DataW H × List MemPlace), DataW.trod enc Tryz.prog w 0 spare held fuel e cs = some x → ∃ v : α, ok w v ∧ cs = cells v) {fuel : Nat} {A : Option Addr} {len cap : Nat} {x : DataW H × List MemPlace} (h : DataW.trod enc Tryz.prog w 0 spare held fuel t [.slice A len cap] = some x) :
  ∃ l : List α, Lst k cells ok w A len l ∧ len ≤ cap ∧ cap ≤ maxLen := by
 rcases Go.Deep.open_slice ht h with ⟨hcs, _⟩ | ⟨a, len', cap', m, n, D, Pl, hcs, _, hl, hm, hmm, _, hi⟩
 · simp at hcs
   obtain ⟨rfl, rfl, rfl⟩ := hcs
   exact ⟨[], Lst.nil _, Nat.le_refl _, Nat.zero_le _⟩
 · simp at hcs
   obtain ⟨rfl, rfl, rfl⟩ := hcs
   have hlm : len ≤ m := by rw [hmm]; split <;> omega
   have hv : ∀ i, i < len → ∃ v : α, (cells v).length = k ∧ ok w v ∧ ∀ j x, (cells v)[j]? = some x → w.cell? (a.add (i * k + j)) = some x := by
    intro i hil
    obtain ⟨cs', h1, h2⟩ := hi i (by omega)
    rw [hc] at h1
    obtain ⟨v, hv1, rfl⟩ := hel _ _ _ h2
    obtain ⟨_, hcl, hat⟩ := World.cells?_some h1
    refine ⟨v, hcl, hv1, fun j x hx => ?_⟩
    have hj : j < (cells v).length := (List.getElem?_eq_some_iff.1 hx).1
    have := hat j (by omega)
    rw [add_add] at this
    rw [this, hx]
   have hg : ∀ i v, ((List.range len).map (fun i => if hi : i < len then Classical.choose (hv i hi) else default))[i]? = some v → (cells v).length = k ∧ ok w v ∧ ∀ j x, (cells v)[j]? = some x → w.cell? (a.add (i * k + j)) = some x := by
    intro i v hiv
    simp only [List.getElem?_map, Option.map_eq_some_iff] at hiv
    obtain ⟨i', hk, rfl⟩ := hiv
    obtain ⟨hk1, hk2⟩ := List.getElem?_eq_some_iff.1 hk
    simp at hk1 hk2
    subst hk2
    rw [dif_pos hk1]
    exact Classical.choose_spec (hv i hk1)
   refine ⟨(List.range len).map (fun i => if hi : i < len then Classical.choose (hv i hi) else default), ⟨by simp, fun v hm => ?_, fun _ => ⟨a, rfl, fun i v hiv => (hg i v hiv).2.2⟩⟩, hl, hm⟩
   obtain ⟨i, hi⟩ := List.getElem?_of_mem hm
   exact ⟨(hg i v hi).1, (hg i v hi).2.1⟩
/-! ### loads from anywhere -/
section
variable {P : Program} {l : List Oper} {Q : Exit → Act → World → Prop} {md : Region.Mode} {S : World → Prop} {fuel : Nat} {listed : Array Bool} {a : Act} {w : World}
theorem exec_cells {ev : Operand → Value} {o : Oper} {w : World} (ty : TypeId) (x : Operand) (ho : o.op = .load ty x) (ad : Addr) (hx : ev x = .pointer (some ad)) (cs : List Value) (hr : RowTy P ty cs.length)
  (hc : ∀ j v, cs[j]? = some v → w.cell? (ad.add j) = some v) : (execOp ev o).run P w = .ok (.value (.agg cs.toArray)) w := by
 obtain ⟨h1, h2⟩ := hr
 cases hu : P.underlying ty with
 | none => rw [hu] at h1; cases h1
 | some d =>
   rw [hu] at h1
   unfold execOp
   simp only [ho, hx, Instr.loadAt, Instr.sureAddr, Sem.run_bind, Sem.run_pure, Result.andThen_ok, run_loadVar_cells w ad ty cs d hc hu (by cases d <;> simp_all [TypeDesc.isRow]) h2]
theorem wpList_cells {ops : Array Oper} {rest : List Oper} {op : Oper} (hw : Region.wanted op (yielded ops a.tmps) = true) (ty : TypeId) (x : Operand) (ho : op.op = .load ty x)
  (ad : Addr) (hx : a.eval x = .pointer (some ad)) (cs : List Value) (hc : ∀ j v, cs[j]? = some v → w.cell? (ad.add j) = some v) (hr : RowTy P ty cs.length)
  (h : wpList P ops Q rest (a.put op.dst (.agg cs.toArray)) w) : wpList P ops Q (op :: rest) a w :=
 BigFrame.wpList_want hw fun _ hK => wp_run (exec_cells ty x ho ad hx cs hr hc) (hK _ _ h)
end
end Go.Proofs.YtdenpfcgghangaaGreat

namespace Go.Proofs.YtdenpfcgghangaaGreat
open Go.RowKit
set_option maxRecDepth 100000
/-! ### a struct is built of parts -/
def splice (l : List Value) (o : Nat) (v : List Value) : List Value := l.take o ++ (v ++ l.drop (o + v.length))
theorem splice_foldl : ∀ (v : List Value) (k o : Nat) (cs : Array Value), o + k + v.length ≤ cs.size →
  (v.zipIdx k).foldl (fun cs (c, j) => cs.setIfInBounds (o + j) c) cs = (splice cs.toList (o + k) v).toArray
 | [], k, o, cs, _ => by
   simp [splice]
 | c :: r, k, o, cs, h => by
   simp only [List.length_cons] at h
   rw [List.zipIdx_cons, List.foldl_cons, splice_foldl r (k + 1) o _ (by simp; omega)]
   congr 1
   unfold splice
   simp only [Array.toList_setIfInBounds, List.length_cons]
   have h1 : o + k < cs.toList.length := by simp; omega
   rw [show o + (k + 1) = (o + k) + 1 by omega, List.take_add_one, List.take_set_of_le (Nat.le_refl _), List.getElem?_set_self h1, List.drop_set_of_lt (by omega)]
   simp [Nat.add_assoc, Nat.add_comm, Nat.add_left_comm]
theorem fill_step (place : Nat → Option (Nat × Nat)) (cells : Array Value) (i off size : Nat) (v : Value) (rest : List (Nat × Value)) (hp : place i = some (off, size)) (h1 : v.cells.size = size) (h2 : off + size ≤ cells.size) :
  Instr.fill place cells ((i, v) :: rest) = Instr.fill place (splice cells.toList off v.cells.toList).toArray rest := by
 rw [Instr.fill, hp]
 simp only [h1]
 rw [if_neg (by simp; omega)]
 congr 1
 have e := splice_foldl v.cells.toList 0 off cells (by simp [h1]; omega)
 rw [Nat.add_zero] at e
 rw [← e, ← Array.foldl_toList, Array.toList_zipIdx]
def zeroCm : Array Value := (Cm.cells ⟨0, 0, List.replicate 32 0, 0, 0, 0⟩).toArray
def places : List (Nat × Nat) := [(0, 2), (2, 32), (34, 1), (35, 2)]
theorem Blk.there {w : World} {g : Nat} {t : TypeId} {cs : Array Value} (h : Blk w g t cs) (o n : Nat) (hl : o + n ≤ cs.size) : w.there g o n := fun j hj => by
 refine ⟨?_, h.frozen _⟩
 rw [h.cell, Array.getElem?_eq_getElem (by omega)]
 rfl
def made0 (c s : Int) (h b : List UInt8) : Cm := ⟨c, s, sumL (ofL c s h b), b.length, 0, 0⟩
def made (c s : Int) (h b : List UInt8) (l : List Ent) : Cm :=
 ⟨c, s, sumL (ofL c s h b), b.length, 1000 + c, mrk (sgn l (1000 + c, (made0 c s h b).text)) (1000 + c, (made0 c s h b).text)⟩
end Go.Proofs.YtdenpfcgghangaaGreat

namespace Go.Proofs.YtdenpfcgghangaaGreat
open Go.RowKit
set_option maxRecDepth 100000
def ElTy (P : Program) (e : TypeId) (k bytes : Nat) : Prop := ∃ i z, P.info? e = some i ∧ i.zero = some z ∧ z.cells.size = k ∧ i.size = k ∧ i.bytes = bytes
theorem ElTy.of {P : Program} {e : TypeId} {k bytes : Nat} (h : (P.info? e).map (fun i => (i.zero.map (·.cells.size), i.size, i.bytes)) = some (some k, k, bytes)) : ElTy P e k bytes := by
 cases hi : P.info? e with
 | none => rw [hi] at h; cases h
 | some i =>
   rw [hi] at h
   simp only [Option.map_some, Option.some.injEq, Prod.mk.injEq] at h
   cases hz : i.zero with
   | none => rw [hz] at h; simp at h
   | some z =>
     rw [hz] at h
     exact ⟨i, z, hi, hz, by simpa using h.1, h.2.1, h.2.2⟩
theorem wp_build_one {P : Program} {o : Oper} {a : Act} {w : World} {K : Act → World → Prop} {Q : Exit → Act → World → Prop} (t e : TypeId) (y : Operand) (ho : o.op = .buildSlice t 1 #[(0, y)]) (hu : P.underlying t = some (.slice e))
  (cs : List Value) (bytes : Nat) (he : ElTy P e cs.length bytes) (hy : a.eval y = .agg cs.toArray) (h0 : 0 < cs.length) (h1 : cs.length ≤ 1000)
  (h : K (a.put o.dst (.slice (some ⟨w.heap.size, 0, none⟩) 1 1)) (w.alloc (.cells cs.toArray e))) : o.wp P a w K Q := by
 obtain ⟨i, z, hi, hz, hzs, hs, _⟩ := he
 refine wp_buildSlice t e 1 _ ho cs.toArray i z hu hi hz (by rw [hs]; omega) (by rw [hs]; omega) ?_ h
 have hl : ((Array.range (1 * i.size)).map (z.cells[· % z.cells.size]!)).size = cs.length := by simp [hs]
 generalize (Array.range (1 * i.size)).map (z.cells[· % z.cells.size]!) = Z at *
 have e1 : (#[(0, y)].map fun (i, x) => (i, a.eval x)).toList = [(0, .agg cs.toArray)] := by simp [hy]
 rw [e1, fill_step _ _ 0 0 cs.length _ _ (by simp [hs]) (by simp [Value.cells]) (by omega), Instr.fill]
 congr 1
 have hd : Z.toList.drop cs.length = [] := List.drop_eq_nil_of_le (by simp [hl])
 simp [splice, Value.cells, hd]
theorem wpList_build_one {P : Program} {ops : Array Oper} {rest : List Oper} {o : Oper} {a : Act} {w : World} {Q : Exit → Act → World → Prop} (hg : o.guard = none) (t e : TypeId) (y : Operand) (ho : o.op = .buildSlice t 1 #[(0, y)]) (hu : P.underlying t = some (.slice e))
  (cs : List Value) (bytes : Nat) (he : ElTy P e cs.length bytes) (hy : a.eval y = .agg cs.toArray) (h0 : 0 < cs.length) (h1 : cs.length ≤ 1000)
  (h : wpList P ops Q rest (a.put o.dst (.slice (some ⟨w.heap.size, 0, none⟩) 1 1)) (w.alloc (.cells cs.toArray e))) : wpList P ops Q (o :: rest) a w :=
 wpList_plain hg fun _ hK => wp_build_one t e y ho hu cs bytes he hy h0 h1 (hK _ _ h)
end Go.Proofs.YtdenpfcgghangaaGreat

namespace Go.Proofs.YtdenpfcgghangaaGreat
open Go.RowKit
set_option maxRecDepth 100000
def fnV (f : FuncId) : Value := .func (.func f) #[] #[]
theorem flat_len {α : Type} {full : α → List UInt8} {N : Nat} : ∀ {l : List α} {k : Nat}, (∀ v ∈ l, (full v).length ≤ N) → l.length ≤ k → (l.flatMap full).length ≤ k * N
 | [], _, _, _ => by simp
 | v :: l, 0, _, h => by simp at h
 | v :: l, k + 1, hf, h => by
   rw [List.flatMap_cons, List.length_append, Nat.succ_mul]
   have h1 := hf v (by simp)
   have h2 := flat_len (l := l) (k := k) (fun u hu => hf u (by simp [hu])) (by simp at h; omega)
   omega
theorem Gr.calls {P : Program} {f : FuncId} {args : Array Value} {w w1 : World} {S : List Nat} {g : Nat} {l l' : List UInt8} {v : Value} (h : Gr w S g l w1)
  (hc : ∀ S1, Wr w1 S1 g l → Fr S w w1 → (∀ x ∈ S1, x < w.heap.size → x ∈ S) → Calls P f args w1 fun e w' => e = .returned v ∧ Gr w1 S1 g l' w') : Calls P f args w1 fun e w' => e = .returned v ∧ Gr w S g l' w' := by
 obtain ⟨S1, h1, h2, h3⟩ := h
 refine (hc S1 h1 h2 h3).mono ?_
 rintro e w' ⟨rfl, S2, k1, k2, k3⟩
 exact ⟨rfl, S2, k1, h2.trans k2 h3, fun x hx hl => h3 x (k3 x hx (Nat.lt_of_lt_of_le hl h2.size)) hl⟩
theorem Lst.keep' {α : Type} {k : Nat} {cells : α → List Value} {ok ok' : World → α → Prop} {w w' : World} {A : Option Addr} {n : Nat} {l : List α} {S : List Nat} (h : Lst k cells ok w A n l) (hf : Fr S w w') (hA : 0 < n → ∀ a, A = some a → ¬ a.block ∈ S) (hok : ∀ v ∈ l, ok w v → ok' w' v) : Lst k cells ok' w' A n l :=
 ⟨h.1, fun v hv => ⟨(h.2.1 v hv).1, hok v hv (h.2.1 v hv).2⟩, fun hn => by
  obtain ⟨ad, e, hc⟩ := h.2.2 hn
  exact ⟨ad, e, fun i v hv j x hx => hf.cell (hc i v hv j x hx) (by rw [add_block]; exact hA hn ad e)⟩⟩
theorem Lst.lt {α : Type} {k : Nat} {cells : α → List Value} {ok : World → α → Prop} {w : World} {A : Option Addr} {n : Nat} {l : List α} (h : Lst k cells ok w A n l) (hn : 0 < n) (hk : 0 < k) (hlen : ∀ v ∈ l, (cells v).length = k) (a : Addr) (ha : A = some a) : a.block < w.heap.size := by
 obtain ⟨ad, e, hc⟩ := h.2.2 hn
 have h1 : 0 < l.length := by rw [h.1]; exact hn
 have hv := List.getElem?_eq_getElem h1
 have h2 : 0 < (cells l[0]).length := by rw [hlen _ (List.mem_of_getElem? hv)]; exact hk
 have := hc 0 _ hv 0 _ (List.getElem?_eq_getElem h2)
 have h3 := World.block_lt_of_cell? _ _ this
 rw [add_block] at h3
 rw [ha] at e
 injection e with e
 rw [e]
 exact h3
def listL {α : Type} (full : α → List UInt8) (l : List α) : List UInt8 := encI (l.length : Int) ++ l.flatMap full
end Go.Proofs.YtdenpfcgghangaaGreat

namespace Go.Proofs.YtdenpfcgghangaaGreat
open Go.RowKit
set_option maxRecDepth 100000
structure Wcm where
 c : Int
 s : Int
 h : List UInt8
 n : Int
 b : Int
 m : Int
def Wcm.cells (x : Wcm) : List Value := [.int .i64 x.c, .int .i64 x.s] ++ (x.h.map by8 ++ [.int .i64 x.n, .int .i64 x.b, .int .i64 x.m])
def Wcm.val (x : Wcm) : Value := .agg x.cells.toArray
structure Wcm.Ok (x : Wcm) : Prop where
 c : i64In x.c
 s : i64In x.s
 h : x.h.length = 32
 n : i64In x.n
 b : i64In x.b
 m : i64In x.m
theorem Wcm.len {x : Wcm} (h : x.h.length = 32) : x.cells.length = 37 := by simp [Wcm.cells, h]
theorem Wcm.one (x : Wcm) : ∀ v ∈ x.cells, v.oneCell' = true := by
 intro v hv
 simp only [Wcm.cells, List.mem_cons, List.mem_append, List.not_mem_nil, or_false] at hv
 rcases hv with (rfl | rfl) | hv | rfl | rfl | rfl
 · rfl
 · rfl
 · exact by8_one x.h v hv
 · rfl
 · rfl
 · rfl
structure Wcm.At (w : World) (g o : Nat) (x : Wcm) : Prop where
 all : w.rangeAt g o x.cells
 hash : w.rangeAt g (o + 2) (x.h.map by8)
 name : w.rangeAt g (o + 0) [.int .i64 x.c, .int .i64 x.s]
 sig : w.rangeAt g (o + 35) [.int .i64 x.b, .int .i64 x.m]
 c : w.cell? ⟨g, o + 0, none⟩ = some (.int .i64 x.c)
 s : w.cell? ⟨g, o + 1, none⟩ = some (.int .i64 x.s)
 n : w.cell? ⟨g, o + 34, none⟩ = some (.int .i64 x.n)
 b : w.cell? ⟨g, o + 35, none⟩ = some (.int .i64 x.b)
 m : w.cell? ⟨g, o + 36, none⟩ = some (.int .i64 x.m)
theorem Wcm.at_of {w : World} {g o : Nat} {x : Wcm} (hr : w.rangeAt g o x.cells) (hh : x.h.length = 32) : x.At w g o := by
 have hl : (x.h.map by8).length = 32 := by rw [List.length_map]; exact hh
 have c_c : w.cell? ⟨g, o + 0, none⟩ = some (.int .i64 x.c) := hr 0 _ rfl
 have c_s : w.cell? ⟨g, o + 1, none⟩ = some (.int .i64 x.s) := hr 1 _ rfl
 have c_n : w.cell? ⟨g, o + 34, none⟩ = some (.int .i64 x.n) := hr 34 _ (post_cell [.int .i64 x.c, .int .i64 x.s] (x.h.map by8) [.int .i64 x.n, .int .i64 x.b, .int .i64 x.m] hl 0 rfl)
 have c_b : w.cell? ⟨g, o + 35, none⟩ = some (.int .i64 x.b) := hr 35 _ (post_cell [.int .i64 x.c, .int .i64 x.s] (x.h.map by8) [.int .i64 x.n, .int .i64 x.b, .int .i64 x.m] hl 1 rfl)
 have c_m : w.cell? ⟨g, o + 36, none⟩ = some (.int .i64 x.m) := hr 36 _ (post_cell [.int .i64 x.c, .int .i64 x.s] (x.h.map by8) [.int .i64 x.n, .int .i64 x.b, .int .i64 x.m] hl 2 rfl)
 have r_name : w.rangeAt g (o + 0) [.int .i64 x.c, .int .i64 x.s] := by
  intro j v hv
  rcases j with _ | j
  · simp at hv; subst hv; exact c_c
  rcases j with _ | j
  · simp at hv; subst hv; exact c_s
  · simp at hv
 have r_sig : w.rangeAt g (o + 35) [.int .i64 x.b, .int .i64 x.m] := by
  intro j v hv
  rcases j with _ | j
  · simp at hv; subst hv; exact c_b
  rcases j with _ | j
  · simp at hv; subst hv; exact c_m
  · simp at hv
 have r_hash : w.rangeAt g (o + 2) (x.h.map by8) := rangeAt_sub (xs := [.int .i64 x.c, .int .i64 x.s]) (ys := x.h.map by8) (zs := [.int .i64 x.n, .int .i64 x.b, .int .i64 x.m]) hr
 exact ⟨hr, r_hash, r_name, r_sig, c_c, c_s, c_n, c_b, c_m⟩
theorem Wcm.At.keep {w w' : World} {g o : Nat} {x : Wcm} {S : List Nat} (h : x.At w g o) (hf : Fr S w w') (hn : ¬ g ∈ S) : x.At w' g o :=
 ⟨hf.range h.all hn, hf.range h.hash hn, hf.range h.name hn, hf.range h.sig hn, hf.cell h.c hn, hf.cell h.s hn, hf.cell h.n hn, hf.cell h.b hn, hf.cell h.m hn⟩
theorem row_cmt : RowTy Tryz.prog 29 37 := ⟨by kernel_rfl, by kernel_rfl⟩
theorem row_crt : RowTy Tryz.prog 35 38 := ⟨by kernel_rfl, by kernel_rfl⟩
theorem row_prm : RowTy Tryz.prog 40 6 := ⟨by kernel_rfl, by kernel_rfl⟩
def Wcm.full (x : Wcm) : List UInt8 := nmL x.c x.s ++ x.h ++ encI x.n ++ sgL x.b x.m
theorem Wcm.full_len {x : Wcm} (hx : x.Ok) : x.full.length ≤ 82 := by
 have b0 := encI_len x.c hx.c.2
 have b1 := encI_len x.s hx.s.2
 have b2 := hx.h
 have b3 := encI_len x.n hx.n.2
 have b4 := encI_len x.b hx.b.2
 have b5 := encI_len x.m hx.m.2
 simp only [Wcm.full, nmL, sgL, List.length_append]
 omega
structure Wce where
 k : Wcm
 A : Option Addr
 n : Nat
 d : Nat
 l : List Wst
def Wce.cells (x : Wce) : List Value := x.k.cells ++ [.slice x.A x.n x.d]
def Wce.val (x : Wce) : Value := .agg x.cells.toArray
structure Wce.Ok (w : World) (S : List Nat) (x : Wce) : Prop where
 k : x.k.Ok
 l : Lst 38 Wst.cells (fun _ v => v.Ok) w x.A x.n x.l
 n : x.n ≤ 5
 ap : 0 < x.n → ∀ a, x.A = some a → ¬ a.block ∈ S
theorem Wce.len {x : Wce} (h : x.k.h.length = 32) : x.cells.length = 38 := by simp [Wce.cells, Wcm.len h]
theorem Wce.one (x : Wce) : ∀ v ∈ x.cells, v.oneCell' = true := by
 intro v hv
 simp only [Wce.cells, List.mem_append, List.mem_singleton] at hv
 rcases hv with hv | rfl
 · exact Wcm.one x.k v hv
 · rfl
theorem Wce.Ok.keep {w W : World} {S S' : List Nat} {x : Wce} (h : x.Ok w S) (hf : Fr S w W) (hs : ∀ k ∈ S', k < w.heap.size → k ∈ S) : x.Ok W S' :=
 ⟨h.k, h.l.keep' hf h.ap (fun _ _ h => h), h.n, fun hn a ha hin => h.ap hn a ha (hs _ hin (h.l.lt hn (by decide) (fun v hv => Wst.len (h.l.2.1 v hv).2.h) a ha))⟩
def Wce.full (x : Wce) : List UInt8 := x.k.full ++ listL Wst.full x.l
theorem Wst.full_len {x : Wst} (hx : x.Ok) : x.full.length ≤ 100 := by
 have b0 := Wst.bare_len hx
 have b1 := encI_len x.b hx.b.2
 have b2 := encI_len x.m hx.m.2
 simp only [Wst.full, sgL, List.length_append]
 omega
theorem Wce.full_len {w : World} {S : List Nat} {x : Wce} (hx : x.Ok w S) : x.full.length ≤ 700 := by
 have b0 := Wcm.full_len hx.k
 have b1 := encI_len (x.l.length : Int) (by have := hx.n; have := hx.l.1; omega)
 have b2 : (x.l.flatMap Wst.full).length ≤ 5 * 100 := flat_len (fun v hv => Wst.full_len (hx.l.2.1 v hv).2) (by have := hx.n; have := hx.l.1; omega)
 simp only [Wce.full, listL, List.length_append]
 omega
end Go.Proofs.YtdenpfcgghangaaGreat

namespace Go.Proofs.YtdenpfcgghangaaGreat
open Go.RowKit
set_option maxRecDepth 100000
abbrev Ps := List UInt8 × Bool
def pI (s : Ps) : Int × Ps := ((inN s.1 1099511627776 : Nat), (inL s.1 1099511627776, inB s.1 1099511627776 s.2))
def pC (s : Ps) : Nat × Ps := (inN s.1 100, (inL s.1 100, inB s.1 100 s.2))
def pN (s : Ps) : Nat × Ps := (rdN s.1, (rdL s.1, rdB s.1 s.2))
def pH (s : Ps) : List UInt8 × Ps := (hashOf s.1, (tookL s.1, tookB s.1 s.2))
def pR (s : Ps) : List UInt8 × Ps := (rwV s.1 256, (rwL s.1 256, rwB s.1 256 s.2))
def p2 (s : Ps) : (Int × Int) × Ps := (((pI s).1, (pI (pI s).2).1), (pI (pI s).2).2)
structure Rs (w : World) (F : List Nat) (g : Nat) (s : Ps) : Prop where
 rd : Rd w g F s.1 s.2
 len : s.1.length ≤ 1073741824
 lt : ∀ k ∈ F, k < w.heap.size
theorem Rs.fr {w w' : World} {F T : List Nat} {g : Nat} {s : Ps} (h : Rs w F g s) (hf : Fr T w w') (hg : ¬ g ∈ T) (hF : ∀ k ∈ F, ¬ k ∈ T) : Rs w' F g s := ⟨h.rd.keep hf hg hF, h.len, fun k hk => Nat.lt_of_lt_of_le (h.lt k hk) hf.size⟩
theorem Rs.gt {w : World} {F : List Nat} {g : Nat} {s : Ps} (h : Rs w F g s) : g < w.heap.size := h.rd.lt
theorem Fr.unbox {g q : Nat} {w wa w1 w2 : World} (h0 : Fr [] w wa) (h1 : Fr [g] wa w1) (h2 : Fr [q] w1 w2) (hq : w.heap.size ≤ q) : Fr [g] w w2 :=
 ((h0.mono (T := [g]) (by simp)).trans h1 (fun x hx _ => hx)).trans h2 (fun x hx hl => by simp at hx; omega)
theorem zero_in : i64In 0 := by unfold i64In; omega
theorem inL_le (R : List UInt8) (m : Int) : (inL R m).length ≤ R.length := by
 unfold inL
 cases dec R with
 | none => simp
 | some p => simp only; split <;> simp
theorem rdL_le (R : List UInt8) : (rdL R).length ≤ R.length := by
 unfold rdL
 cases dec R with
 | none => simp
 | some p => simp
theorem tookL_le (R : List UInt8) : (tookL R).length ≤ R.length := by unfold tookL; split <;> simp
theorem rwL_le (R : List UInt8) (m : Int) : (rwL R m).length ≤ R.length := by
 unfold rwL
 cases dec R with
 | none => simp
 | some p => simp only; split <;> simp
theorem inN_le (R : List UInt8) {m : Int} (hm : 0 ≤ m) : ((inN R m : Nat) : Int) ≤ m := by
 unfold inN
 cases dec R with
 | none => simpa using hm
 | some p =>
   simp only
   split
   · assumption
   · simpa using hm
theorem rdN_lt (R : List UInt8) : rdN R < 18446744073709551616 := by
 unfold rdN
 cases h : dec R with
 | none => simp
 | some p => exact (dec_some (n := p.1) (s := p.2) h).2.2.2
theorem pI_in (s : Ps) : i64In (pI s).1 := by
 have h := inN_le s.1 (m := 1099511627776) (by omega)
 unfold pI i64In
 simp only
 omega
section
variable {w : World} {F : List Nat} {g : Nat} {s : Ps}
theorem rint_ps (m : Int) (hm2 : m < 9223372036854775808) (hr : Rs w F g s) :
  Calls Tryz.prog 78 #[.pointer (some ⟨g, 0, none⟩), .int .i64 m] w fun e w' => e = .returned (.int .i64 (inN s.1 m)) ∧ Rs w' F g (inL s.1 m, inB s.1 m s.2) ∧ Fr [g] w w' := by
 have hl := inL_le s.1 m
 obtain ⟨R, bad⟩ := s
 have mk : ∀ {w' : World} {l : List UInt8} {b : Bool}, l.length ≤ R.length → Rd w' g F l b → Fr [g] w w' → Rs w' F g (l, b) := fun h1 h2 h3 => ⟨h2, Nat.le_trans h1 hr.len, fun k hk => Nat.lt_of_lt_of_le (hr.lt k hk) h3.size⟩
 unfold inN inL inB at *
 simp only at hl ⊢
 cases hd : dec R with
 | none =>
   rw [hd] at hl
   exact (rint_bad w g F R bad hr.rd hr.len m (intBad_none hd) hm2).mono fun _ _ ⟨k1, k2, k3⟩ => ⟨k1, mk (by simp) k2 k3, k3⟩
 | some p =>
   rw [hd] at hl
   by_cases hv : (p.1 : Int) ≤ m
   · simp only [if_pos hv] at hl ⊢
     exact (rint_ok w g F R bad hr.rd hr.len p.1 p.2 hd m hv hm2).mono fun _ _ ⟨k1, k2, k3⟩ => ⟨k1, mk hl k2 k3, k3⟩
   · simp only [if_neg hv] at hl ⊢
     exact (rint_bad w g F R bad hr.rd hr.len m (intBad_lt hd (by omega)) hm2).mono fun _ _ ⟨k1, k2, k3⟩ => ⟨k1, mk (by simp) k2 k3, k3⟩
theorem getInt_any (hr : Rs w F g s) : Calls Tryz.prog 39 #[.pointer (some ⟨g, 0, none⟩)] w fun e w' => e = .returned (.int .i64 (pI s).1) ∧ Rs w' F g (pI s).2 ∧ Fr [g] w w' := by
 have HR := Lib.hid hr
 clear hr
 go_enter Tryz.func39, Tryz.ntmps39
 go_wp2_with fail
 refine (rint_ps 1099511627776 (by omega) HR.out).mono ?_
 rintro e w1 ⟨rfl, h1, h2⟩
 have H1 : Hid (Rs w1 F g (pI s).2) := Lib.hid h1
 have H2 := Lib.hid h2
 clear h1 h2
 go_wp2
 go_ret
 exact ⟨rfl, H1.out, H2.out⟩
theorem getNum_any (hr : Rs w F g s) : Calls Tryz.prog 83 #[.pointer (some ⟨g, 0, none⟩)] w fun e w' => e = .returned (.int .u64 ((pN s).1 : Nat)) ∧ Rs w' F g (pN s).2 ∧ Fr [g] w w' := by
 have hl := rdL_le s.1
 obtain ⟨R, bad⟩ := s
 unfold pN rdN rdL rdB at *
 simp only at hl ⊢
 cases hd : dec R with
 | none => exact (rnum_bad w g F R bad hr.rd hr.len hd).mono fun _ _ ⟨k1, k2, k3⟩ => ⟨k1, ⟨k2, by simp, fun k hk => Nat.lt_of_lt_of_le (hr.lt k hk) k3.size⟩, k3⟩
 | some p => exact (rnum_ok w g F R bad hr.rd hr.len p.1 p.2 hd).mono fun _ _ ⟨k1, k2, k3⟩ => ⟨k1, ⟨k2, Nat.le_trans (by simp) hr.len, fun k hk => Nat.lt_of_lt_of_le (hr.lt k hk) k3.size⟩, k3⟩
theorem getHash_any (hr : Rs w F g s) : Calls Tryz.prog 118 #[.pointer (some ⟨g, 0, none⟩)] w fun e w' => e = .returned (.agg (((pH s).1).map by8).toArray) ∧ Rs w' F g (pH s).2 ∧ Fr [g] w w' :=
 (rhash_any w g F s.1 s.2 hr.rd hr.lt hr.len).mono fun _ _ ⟨h1, h2, h3⟩ => ⟨h1, ⟨h2, Nat.le_trans (tookL_le _) hr.len, fun k hk => Nat.lt_of_lt_of_le (hr.lt k hk) h3.size⟩, h3⟩
theorem getCount_any (hr : Rs w F g s) : Calls Tryz.prog 78 #[.pointer (some ⟨g, 0, none⟩), .int .i64 100] w fun e w' => e = .returned (.int .i64 ((pC s).1 : Nat)) ∧ Rs w' F g (pC s).2 ∧ Fr [g] w w' :=
 rint_ps 100 (by omega) hr
end
theorem pH_len (s : Ps) : (pH s).1.length = 32 := hashOf_len s.1
theorem pC_le (s : Ps) : (pC s).1 ≤ 100 := by have h := inN_le s.1 (m := 100) (by omega); unfold pC; simp only; omega
theorem pN_lt (s : Ps) : (pN s).1 < 18446744073709551616 := rdN_lt s.1
def zCm : Array Value := (Wcm.cells ⟨0, 0, List.replicate 32 0, 0, 0, 0⟩).toArray
def zSt : Array Value := (Wst.cells ⟨0, 0, 0, List.replicate 32 0, 0, 0, 0⟩).toArray
theorem built_cmE (parts : List (Nat × Value)) : Tryz.prog.built 29 parts = Instr.fill ([(0, 2), (2, 32), (34, 1), (35, 2)].toArray[·]?) zCm parts := by kernel_rfl
theorem built_cmR (c s n b m : Int) (h : List UInt8) (hh : h.length = 32) :
  Tryz.prog.built 29 [(0, .agg #[.int .i64 c, .int .i64 s]), (1, .agg (h.map by8).toArray), (2, .int .i64 n), (3, .agg #[.int .i64 b, .int .i64 m])] = some (Wcm.cells ⟨c, s, h, n, b, m⟩).toArray := by
 have hz : zCm.size = 37 := rfl
 rw [built_cmE, fill_step _ _ 0 0 2 _ _ rfl rfl (by rw [hz]; omega), fill_step _ _ 1 2 32 _ _ rfl (by simp [Value.cells, hh]) (by simp [splice, zCm, Wcm.cells, Value.cells]),
  fill_step _ _ 2 34 1 _ _ rfl rfl (by simp [splice, zCm, Wcm.cells, Value.cells, hh]), fill_step _ _ 3 35 2 _ _ rfl rfl (by simp [splice, zCm, Wcm.cells, Value.cells, hh]), Instr.fill]
 congr 2
 have tk : ∀ n, 32 ≤ n → (h.map by8).take n = h.map by8 := fun n hn => List.take_of_length_le (by simp [hh]; omega)
 have dk : ∀ n, 32 ≤ n → (h.map by8).drop n = [] := fun n hn => List.drop_of_length_le (by simp [hh]; omega)
 simp [splice, zCm, Wcm.cells, Value.cells, hh, List.drop_append, List.take_append, tk, dk]
theorem built_stE (parts : List (Nat × Value)) : Tryz.prog.built 32 parts = Instr.fill ([(0, 1), (1, 2), (3, 32), (35, 1), (36, 2)].toArray[·]?) zSt parts := by kernel_rfl
theorem built_stR (r c s : Int) (t : Nat) (b m : Int) (h : List UInt8) (hh : h.length = 32) :
  Tryz.prog.built 32 [(0, .int .i64 r), (1, .agg #[.int .i64 c, .int .i64 s]), (2, .agg (h.map by8).toArray), (3, .int .u64 (t : Int)), (4, .agg #[.int .i64 b, .int .i64 m])] = some (Wst.cells ⟨r, c, s, h, t, b, m⟩).toArray := by
 have hz : zSt.size = 38 := rfl
 rw [built_stE, fill_step _ _ 0 0 1 _ _ rfl rfl (by rw [hz]; omega), fill_step _ _ 1 1 2 _ _ rfl rfl (by simp [splice, zSt, Wst.cells, Value.cells]), fill_step _ _ 2 3 32 _ _ rfl (by simp [Value.cells, hh]) (by simp [splice, zSt, Wst.cells, Value.cells]),
  fill_step _ _ 3 35 1 _ _ rfl rfl (by simp [splice, zSt, Wst.cells, Value.cells, hh]), fill_step _ _ 4 36 2 _ _ rfl rfl (by simp [splice, zSt, Wst.cells, Value.cells, hh]), Instr.fill]
 congr 2
 have tk : ∀ n, 32 ≤ n → (h.map by8).take n = h.map by8 := fun n hn => List.take_of_length_le (by simp [hh]; omega)
 have dk : ∀ n, 32 ≤ n → (h.map by8).drop n = [] := fun n hn => List.drop_of_length_le (by simp [hh]; omega)
 simp [splice, zSt, Wst.cells, Value.cells, hh, List.drop_append, List.take_append, tk, dk]
theorem built_dnR (r i b m : Int) : Tryz.prog.built 56 [(0, .int .i64 r), (1, .int .i64 i), (2, .agg #[.int .i64 b, .int .i64 m])] = some (Wdn.cells ⟨r, i, b, m⟩).toArray := by kernel_rfl
theorem built_p2n (c s : Int) : Tryz.prog.built 23 [(0, .int .i64 c), (1, .int .i64 s)] = some #[.int .i64 c, .int .i64 s] := by kernel_rfl
theorem built_p2s (c s : Int) : Tryz.prog.built 27 [(0, .int .i64 c), (1, .int .i64 s)] = some #[.int .i64 c, .int .i64 s] := by kernel_rfl
def pCm (s : Ps) : Wcm × Ps := (⟨(p2 s).1.1, (p2 s).1.2, (pH (p2 s).2).1, (pI (pH (p2 s).2).2).1, (p2 (pI (pH (p2 s).2).2).2).1.1, (p2 (pI (pH (p2 s).2).2).2).1.2⟩, (p2 (pI (pH (p2 s).2).2).2).2)
def pSt (s : Ps) : Wst × Ps := (⟨(pI s).1, (p2 (pI s).2).1.1, (p2 (pI s).2).1.2, (pH (p2 (pI s).2).2).1, (pN (pH (p2 (pI s).2).2).2).1, (p2 (pN (pH (p2 (pI s).2).2).2).2).1.1, (p2 (pN (pH (p2 (pI s).2).2).2).2).1.2⟩, (p2 (pN (pH (p2 (pI s).2).2).2).2).2)
def pDn (s : Ps) : Wdn × Ps := (⟨(pI s).1, (pI (pI s).2).1, (p2 (pI (pI s).2).2).1.1, (p2 (pI (pI s).2).2).1.2⟩, (p2 (pI (pI s).2).2).2)
theorem pCm_ok (s : Ps) : (pCm s).1.Ok := ⟨pI_in _, pI_in _, pH_len _, pI_in _, pI_in _, pI_in _⟩
theorem pSt_ok (s : Ps) : (pSt s).1.Ok := ⟨pI_in _, pI_in _, pI_in _, pH_len _, pN_lt _, pI_in _, pI_in _⟩
theorem pDn_ok (s : Ps) : (pDn s).1.Ok := ⟨pI_in _, pI_in _, pI_in _, pI_in _⟩
set_option maxHeartbeats 1000000 in
theorem getName_any {w : World} {F : List Nat} {g : Nat} {s : Ps} (hr : Rs w F g s) : Calls Tryz.prog 117 #[.pointer (some ⟨g, 0, none⟩)] w fun e w' => e = .returned (.agg #[.int .i64 (p2 s).1.1, .int .i64 (p2 s).1.2]) ∧ Rs w' F g (p2 s).2 ∧ Fr [g] w w' := by
 obtain ⟨wa, hwa⟩ : ∃ wa, wa = w.alloc (Obj.cells #[.int .i64 0, .int .i64 0] 23) := ⟨_, rfl⟩
 have hf0 : Fr [] w wa := by rw [hwa]; exact (Fr.refl [] w).alloc _
 have HB : Hid (Blk wa w.heap.size 23 #[.int .i64 0, .int .i64 0]) := Lib.hid (by rw [hwa]; exact Blk.new _ _ _)
 have HR := Lib.hid (hr.fr hf0 (by simp) (by simp))
 have HNF : Hid (¬ w.heap.size ∈ F) := Lib.hid (fun hm => by have := hr.lt _ hm; omega)
 have HG : Hid (g < w.heap.size) := Lib.hid hr.gt
 have HF0 := Lib.hid hf0
 have HWA := Lib.hid hwa
 clear hwa hf0 hr
 go_enter Tryz.func117, Tryz.ntmps117
 go_upto_region 1 with (fail)
 change Code.wp _ _ _ _ (w.alloc (Obj.cells #[.int .i64 0, .int .i64 0] 23))
 rw [← HWA.out]
 go_wp2_with fail
 refine (getInt_any HR.out).mono ?_
 rintro e_ w1 ⟨rfl, h1, h2⟩
 have HR0 := Lib.hid h1
 have HF1 : Hid (Fr [g] wa w1) := Lib.hid h2
 clear h1 h2
 go_wp2_with fail
 refine (getInt_any HR0.out).mono ?_
 rintro e_ w2 ⟨rfl, h1, h2⟩
 have HR1 := Lib.hid h1
 have HF2 : Hid (Fr [g] wa w2) := Lib.hid (HF1.out.trans h2 (fun x hx _ => hx))
 clear h1 h2
 have HBE := Lib.hid (HB.out.keep HF2.out (by have := HG.out; simp; omega))
 have HBU : Hid (Tryz.prog.built 23 [(0, .int .i64 (p2 s).1.1), (1, .int .i64 (p2 s).1.2)] = some #[.int .i64 (p2 s).1.1, .int .i64 (p2 s).1.2]) := Lib.hid (built_p2n _ _)
 have HAL : Hid ((#[.int .i64 (p2 s).1.1, .int .i64 (p2 s).1.2] : Array Value).all (·.oneCell') = true) := Lib.hid (by kernel_rfl)
 have HVS : Hid ((#[.int .i64 (p2 s).1.1, .int .i64 (p2 s).1.2] : Array Value).size = 2) := Lib.hid (rfl)
 have HTS : Hid ((Tryz.prog.info? 23).map (·.size) = some (#[.int .i64 (p2 s).1.1, .int .i64 (p2 s).1.2] : Array Value).size) := Lib.hid (by rw [HVS.out]; kernel_rfl)
 obtain ⟨V, hV⟩ : ∃ V, V = (#[.int .i64 (p2 s).1.1, .int .i64 (p2 s).1.2] : Array Value) := ⟨_, rfl⟩
 have HV := Lib.hid hV
 rw [← hV] at HBU HAL HVS HTS
 clear hV
 go_wp2_with (first
  | (refine wpList_builtg rfl 23 _ rfl _ _ HBU.out rfl ?_)
  | (refine wpList_store_blk rfl 23 _ _ rfl w.heap.size V rfl rfl 23 #[.int .i64 0, .int .i64 0] HBE.out HTS.out (by rw [HVS.out]; rfl) HAL.out ?_
     intro w9 hb9 hf9
     have HB9 := Lib.hid hb9
     have HF9 := Lib.hid hf9
     clear hb9 hf9))
 refine bodyPost_ret (v := .agg V) (results_cell_row Tryz.results117 _ _ w.heap.size 23 V _ _ rfl HB9.out Tryz.underlying23 rfl HTS.out) rfl ⟨by rw [HV.out], ?_, ?_⟩
 · exact HR1.out.fr HF9.out (by have := HG.out; simp; omega) (fun k hk hm => HNF.out (by simp at hm; exact hm ▸ hk))
 · exact Fr.unbox HF0.out HF2.out HF9.out (Nat.le_refl _)
set_option maxHeartbeats 1000000 in
theorem getSig_any {w : World} {F : List Nat} {g : Nat} {s : Ps} (hr : Rs w F g s) : Calls Tryz.prog 119 #[.pointer (some ⟨g, 0, none⟩)] w fun e w' => e = .returned (.agg #[.int .i64 (p2 s).1.1, .int .i64 (p2 s).1.2]) ∧ Rs w' F g (p2 s).2 ∧ Fr [g] w w' := by
 obtain ⟨wa, hwa⟩ : ∃ wa, wa = w.alloc (Obj.cells #[.int .i64 0, .int .i64 0] 27) := ⟨_, rfl⟩
 have hf0 : Fr [] w wa := by rw [hwa]; exact (Fr.refl [] w).alloc _
 have HB : Hid (Blk wa w.heap.size 27 #[.int .i64 0, .int .i64 0]) := Lib.hid (by rw [hwa]; exact Blk.new _ _ _)
 have HR := Lib.hid (hr.fr hf0 (by simp) (by simp))
 have HNF : Hid (¬ w.heap.size ∈ F) := Lib.hid (fun hm => by have := hr.lt _ hm; omega)
 have HG : Hid (g < w.heap.size) := Lib.hid hr.gt
 have HF0 := Lib.hid hf0
 have HWA := Lib.hid hwa
 clear hwa hf0 hr
 go_enter Tryz.func119, Tryz.ntmps119
 go_upto_region 1 with (fail)
 change Code.wp _ _ _ _ (w.alloc (Obj.cells #[.int .i64 0, .int .i64 0] 27))
 rw [← HWA.out]
 go_wp2_with fail
 refine (getInt_any HR.out).mono ?_
 rintro e_ w1 ⟨rfl, h1, h2⟩
 have HR0 := Lib.hid h1
 have HF1 : Hid (Fr [g] wa w1) := Lib.hid h2
 clear h1 h2
 go_wp2_with fail
 refine (getInt_any HR0.out).mono ?_
 rintro e_ w2 ⟨rfl, h1, h2⟩
 have HR1 := Lib.hid h1
 have HF2 : Hid (Fr [g] wa w2) := Lib.hid (HF1.out.trans h2 (fun x hx _ => hx))
 clear h1 h2
 have HBE := Lib.hid (HB.out.keep HF2.out (by have := HG.out; simp; omega))
 have HBU : Hid (Tryz.prog.built 27 [(0, .int .i64 (p2 s).1.1), (1, .int .i64 (p2 s).1.2)] = some #[.int .i64 (p2 s).1.1, .int .i64 (p2 s).1.2]) := Lib.hid (built_p2s _ _)
 have HAL : Hid ((#[.int .i64 (p2 s).1.1, .int .i64 (p2 s).1.2] : Array Value).all (·.oneCell') = true) := Lib.hid (by kernel_rfl)
 have HVS : Hid ((#[.int .i64 (p2 s).1.1, .int .i64 (p2 s).1.2] : Array Value).size = 2) := Lib.hid (rfl)
 have HTS : Hid ((Tryz.prog.info? 27).map (·.size) = some (#[.int .i64 (p2 s).1.1, .int .i64 (p2 s).1.2] : Array Value).size) := Lib.hid (by rw [HVS.out]; kernel_rfl)
 obtain ⟨V, hV⟩ : ∃ V, V = (#[.int .i64 (p2 s).1.1, .int .i64 (p2 s).1.2] : Array Value) := ⟨_, rfl⟩
 have HV := Lib.hid hV
 rw [← hV] at HBU HAL HVS HTS
 clear hV
 go_wp2_with (first
  | (refine wpList_builtg rfl 27 _ rfl _ _ HBU.out rfl ?_)
  | (refine wpList_store_blk rfl 27 _ _ rfl w.heap.size V rfl rfl 27 #[.int .i64 0, .int .i64 0] HBE.out HTS.out (by rw [HVS.out]; rfl) HAL.out ?_
     intro w9 hb9 hf9
     have HB9 := Lib.hid hb9
     have HF9 := Lib.hid hf9
     clear hb9 hf9))
 refine bodyPost_ret (v := .agg V) (results_cell_row Tryz.results119 _ _ w.heap.size 27 V _ _ rfl HB9.out Tryz.underlying27 rfl HTS.out) rfl ⟨by rw [HV.out], ?_, ?_⟩
 · exact HR1.out.fr HF9.out (by have := HG.out; simp; omega) (fun k hk hm => HNF.out (by simp at hm; exact hm ▸ hk))
 · exact Fr.unbox HF0.out HF2.out HF9.out (Nat.le_refl _)
set_option maxHeartbeats 1000000 in
theorem getCommit_any {w : World} {F : List Nat} {g : Nat} {s : Ps} (hr : Rs w F g s) : Calls Tryz.prog 79 #[.pointer (some ⟨g, 0, none⟩)] w fun e w' => e = .returned (.agg (pCm s).1.cells.toArray) ∧ Rs w' F g (pCm s).2 ∧ Fr [g] w w' := by
 obtain ⟨wa, hwa⟩ : ∃ wa, wa = w.alloc (Obj.cells zCm 29) := ⟨_, rfl⟩
 have hf0 : Fr [] w wa := by rw [hwa]; exact (Fr.refl [] w).alloc _
 have HB : Hid (Blk wa w.heap.size 29 zCm) := Lib.hid (by rw [hwa]; exact Blk.new _ _ _)
 have HR := Lib.hid (hr.fr hf0 (by simp) (by simp))
 have HNF : Hid (¬ w.heap.size ∈ F) := Lib.hid (fun hm => by have := hr.lt _ hm; omega)
 have HG : Hid (g < w.heap.size) := Lib.hid hr.gt
 have HF0 := Lib.hid hf0
 have HWA := Lib.hid hwa
 clear hwa hf0 hr
 go_enter Tryz.func79, Tryz.ntmps79
 go_upto_region 1 with (fail)
 change Code.wp _ _ _ _ (w.alloc (Obj.cells zCm 29))
 rw [← HWA.out]
 go_wp2_with fail
 refine (getName_any HR.out).mono ?_
 rintro e_ w1 ⟨rfl, h1, h2⟩
 have HR0 := Lib.hid h1
 have HF1 : Hid (Fr [g] wa w1) := Lib.hid h2
 clear h1 h2
 go_wp2_with fail
 refine (getHash_any HR0.out).mono ?_
 rintro e_ w2 ⟨rfl, h1, h2⟩
 have HR1 := Lib.hid h1
 have HF2 : Hid (Fr [g] wa w2) := Lib.hid (HF1.out.trans h2 (fun x hx _ => hx))
 clear h1 h2
 go_wp2_with fail
 refine (getInt_any HR1.out).mono ?_
 rintro e_ w3 ⟨rfl, h1, h2⟩
 have HR2 := Lib.hid h1
 have HF3 : Hid (Fr [g] wa w3) := Lib.hid (HF2.out.trans h2 (fun x hx _ => hx))
 clear h1 h2
 go_wp2_with fail
 refine (getSig_any HR2.out).mono ?_
 rintro e_ w4 ⟨rfl, h1, h2⟩
 have HR3 := Lib.hid h1
 have HF4 : Hid (Fr [g] wa w4) := Lib.hid (HF3.out.trans h2 (fun x hx _ => hx))
 clear h1 h2
 have HBE := Lib.hid (HB.out.keep HF4.out (by have := HG.out; simp; omega))
 have HBU : Hid (Tryz.prog.built 29 [(0, .agg #[.int .i64 (pCm s).1.c, .int .i64 (pCm s).1.s]), (1, .agg ((pCm s).1.h.map by8).toArray), (2, .int .i64 (pCm s).1.n), (3, .agg #[.int .i64 (pCm s).1.b, .int .i64 (pCm s).1.m])] = some (pCm s).1.cells.toArray) := Lib.hid (built_cmR _ _ _ _ _ _ (pCm_ok s).h)
 have HAL : Hid (((pCm s).1.cells.toArray : Array Value).all (·.oneCell') = true) := Lib.hid (all_oneCell_toArray (Wcm.one _))
 have HVS : Hid (((pCm s).1.cells.toArray : Array Value).size = 37) := Lib.hid (by rw [List.size_toArray]; exact Wcm.len (pCm_ok s).h)
 have HTS : Hid ((Tryz.prog.info? 29).map (·.size) = some ((pCm s).1.cells.toArray : Array Value).size) := Lib.hid (by rw [HVS.out]; kernel_rfl)
 obtain ⟨V, hV⟩ : ∃ V, V = ((pCm s).1.cells.toArray : Array Value) := ⟨_, rfl⟩
 have HV := Lib.hid hV
 rw [← hV] at HBU HAL HVS HTS
 clear hV
 go_wp2_with (first
  | (refine wpList_builtg rfl 29 _ rfl _ _ HBU.out rfl ?_)
  | (refine wpList_store_blk rfl 29 _ _ rfl w.heap.size V rfl rfl 29 zCm HBE.out HTS.out (by rw [HVS.out]; rfl) HAL.out ?_
     intro w9 hb9 hf9
     have HB9 := Lib.hid hb9
     have HF9 := Lib.hid hf9
     clear hb9 hf9))
 refine bodyPost_ret (v := .agg V) (results_cell_row Tryz.results79 _ _ w.heap.size 29 V _ _ rfl HB9.out Tryz.underlying29 rfl HTS.out) rfl ⟨by rw [HV.out], ?_, ?_⟩
 · exact HR3.out.fr HF9.out (by have := HG.out; simp; omega) (fun k hk hm => HNF.out (by simp at hm; exact hm ▸ hk))
 · exact Fr.unbox HF0.out HF4.out HF9.out (Nat.le_refl _)
set_option maxHeartbeats 1000000 in
theorem getStamp_any {w : World} {F : List Nat} {g : Nat} {s : Ps} (hr : Rs w F g s) : Calls Tryz.prog 80 #[.pointer (some ⟨g, 0, none⟩)] w fun e w' => e = .returned (.agg (pSt s).1.cells.toArray) ∧ Rs w' F g (pSt s).2 ∧ Fr [g] w w' := by
 obtain ⟨wa, hwa⟩ : ∃ wa, wa = w.alloc (Obj.cells zSt 32) := ⟨_, rfl⟩
 have hf0 : Fr [] w wa := by rw [hwa]; exact (Fr.refl [] w).alloc _
 have HB : Hid (Blk wa w.heap.size 32 zSt) := Lib.hid (by rw [hwa]; exact Blk.new _ _ _)
 have HR := Lib.hid (hr.fr hf0 (by simp) (by simp))
 have HNF : Hid (¬ w.heap.size ∈ F) := Lib.hid (fun hm => by have := hr.lt _ hm; omega)
 have HG : Hid (g < w.heap.size) := Lib.hid hr.gt
 have HF0 := Lib.hid hf0
 have HWA := Lib.hid hwa
 clear hwa hf0 hr
 go_enter Tryz.func80, Tryz.ntmps80
 go_upto_region 1 with (fail)
 change Code.wp _ _ _ _ (w.alloc (Obj.cells zSt 32))
 rw [← HWA.out]
 go_wp2_with fail
 refine (getInt_any HR.out).mono ?_
 rintro e_ w1 ⟨rfl, h1, h2⟩
 have HR0 := Lib.hid h1
 have HF1 : Hid (Fr [g] wa w1) := Lib.hid h2
 clear h1 h2
 go_wp2_with fail
 refine (getName_any HR0.out).mono ?_
 rintro e_ w2 ⟨rfl, h1, h2⟩
 have HR1 := Lib.hid h1
 have HF2 : Hid (Fr [g] wa w2) := Lib.hid (HF1.out.trans h2 (fun x hx _ => hx))
 clear h1 h2
 go_wp2_with fail
 refine (getHash_any HR1.out).mono ?_
 rintro e_ w3 ⟨rfl, h1, h2⟩
 have HR2 := Lib.hid h1
 have HF3 : Hid (Fr [g] wa w3) := Lib.hid (HF2.out.trans h2 (fun x hx _ => hx))
 clear h1 h2
 go_wp2_with fail
 refine (getNum_any HR2.out).mono ?_
 rintro e_ w4 ⟨rfl, h1, h2⟩
 have HR3 := Lib.hid h1
 have HF4 : Hid (Fr [g] wa w4) := Lib.hid (HF3.out.trans h2 (fun x hx _ => hx))
 clear h1 h2
 go_wp2_with fail
 refine (getSig_any HR3.out).mono ?_
 rintro e_ w5 ⟨rfl, h1, h2⟩
 have HR4 := Lib.hid h1
 have HF5 : Hid (Fr [g] wa w5) := Lib.hid (HF4.out.trans h2 (fun x hx _ => hx))
 clear h1 h2
 have HBE := Lib.hid (HB.out.keep HF5.out (by have := HG.out; simp; omega))
 have HBU : Hid (Tryz.prog.built 32 [(0, .int .i64 (pSt s).1.r), (1, .agg #[.int .i64 (pSt s).1.c, .int .i64 (pSt s).1.s]), (2, .agg ((pSt s).1.h.map by8).toArray), (3, .int .u64 ((pSt s).1.t : Int)), (4, .agg #[.int .i64 (pSt s).1.b, .int .i64 (pSt s).1.m])] = some (pSt s).1.cells.toArray) := Lib.hid (built_stR _ _ _ _ _ _ _ (pSt_ok s).h)
 have HAL : Hid (((pSt s).1.cells.toArray : Array Value).all (·.oneCell') = true) := Lib.hid (all_oneCell_toArray (Wst.one _))
 have HVS : Hid (((pSt s).1.cells.toArray : Array Value).size = 38) := Lib.hid (by rw [List.size_toArray]; exact Wst.len (pSt_ok s).h)
 have HTS : Hid ((Tryz.prog.info? 32).map (·.size) = some ((pSt s).1.cells.toArray : Array Value).size) := Lib.hid (by rw [HVS.out]; kernel_rfl)
 obtain ⟨V, hV⟩ : ∃ V, V = ((pSt s).1.cells.toArray : Array Value) := ⟨_, rfl⟩
 have HV := Lib.hid hV
 rw [← hV] at HBU HAL HVS HTS
 clear hV
 go_wp2_with (first
  | (refine wpList_builtg rfl 32 _ rfl _ _ HBU.out rfl ?_)
  | (refine wpList_store_blk rfl 32 _ _ rfl w.heap.size V rfl rfl 32 zSt HBE.out HTS.out (by rw [HVS.out]; rfl) HAL.out ?_
     intro w9 hb9 hf9
     have HB9 := Lib.hid hb9
     have HF9 := Lib.hid hf9
     clear hb9 hf9))
 refine bodyPost_ret (v := .agg V) (results_cell_row Tryz.results80 _ _ w.heap.size 32 V _ _ rfl HB9.out Tryz.underlying32 rfl HTS.out) rfl ⟨by rw [HV.out], ?_, ?_⟩
 · exact HR4.out.fr HF9.out (by have := HG.out; simp; omega) (fun k hk hm => HNF.out (by simp at hm; exact hm ▸ hk))
 · exact Fr.unbox HF0.out HF5.out HF9.out (Nat.le_refl _)
set_option maxHeartbeats 1000000 in
theorem getDeny_any {w : World} {F : List Nat} {g : Nat} {s : Ps} (hr : Rs w F g s) : Calls Tryz.prog 89 #[.pointer (some ⟨g, 0, none⟩)] w fun e w' => e = .returned (.agg (pDn s).1.cells.toArray) ∧ Rs w' F g (pDn s).2 ∧ Fr [g] w w' := by
 obtain ⟨wa, hwa⟩ : ∃ wa, wa = w.alloc (Obj.cells #[.int .i64 0, .int .i64 0, .int .i64 0, .int .i64 0] 56) := ⟨_, rfl⟩
 have hf0 : Fr [] w wa := by rw [hwa]; exact (Fr.refl [] w).alloc _
 have HB : Hid (Blk wa w.heap.size 56 #[.int .i64 0, .int .i64 0, .int .i64 0, .int .i64 0]) := Lib.hid (by rw [hwa]; exact Blk.new _ _ _)
 have HR := Lib.hid (hr.fr hf0 (by simp) (by simp))
 have HNF : Hid (¬ w.heap.size ∈ F) := Lib.hid (fun hm => by have := hr.lt _ hm; omega)
 have HG : Hid (g < w.heap.size) := Lib.hid hr.gt
 have HF0 := Lib.hid hf0
 have HWA := Lib.hid hwa
 clear hwa hf0 hr
 go_enter Tryz.func89, Tryz.ntmps89
 go_upto_region 1 with (fail)
 change Code.wp _ _ _ _ (w.alloc (Obj.cells #[.int .i64 0, .int .i64 0, .int .i64 0, .int .i64 0] 56))
 rw [← HWA.out]
 go_wp2_with fail
 refine (getInt_any HR.out).mono ?_
 rintro e_ w1 ⟨rfl, h1, h2⟩
 have HR0 := Lib.hid h1
 have HF1 : Hid (Fr [g] wa w1) := Lib.hid h2
 clear h1 h2
 go_wp2_with fail
 refine (getInt_any HR0.out).mono ?_
 rintro e_ w2 ⟨rfl, h1, h2⟩
 have HR1 := Lib.hid h1
 have HF2 : Hid (Fr [g] wa w2) := Lib.hid (HF1.out.trans h2 (fun x hx _ => hx))
 clear h1 h2
 go_wp2_with fail
 refine (getSig_any HR1.out).mono ?_
 rintro e_ w3 ⟨rfl, h1, h2⟩
 have HR2 := Lib.hid h1
 have HF3 : Hid (Fr [g] wa w3) := Lib.hid (HF2.out.trans h2 (fun x hx _ => hx))
 clear h1 h2
 have HBE := Lib.hid (HB.out.keep HF3.out (by have := HG.out; simp; omega))
 have HBU : Hid (Tryz.prog.built 56 [(0, .int .i64 (pDn s).1.r), (1, .int .i64 (pDn s).1.i), (2, .agg #[.int .i64 (pDn s).1.b, .int .i64 (pDn s).1.m])] = some (pDn s).1.cells.toArray) := Lib.hid (built_dnR _ _ _ _)
 have HAL : Hid (((pDn s).1.cells.toArray : Array Value).all (·.oneCell') = true) := Lib.hid (all_oneCell_toArray (Wdn.one _))
 have HVS : Hid (((pDn s).1.cells.toArray : Array Value).size = 4) := Lib.hid (rfl)
 have HTS : Hid ((Tryz.prog.info? 56).map (·.size) = some ((pDn s).1.cells.toArray : Array Value).size) := Lib.hid (by rw [HVS.out]; kernel_rfl)
 obtain ⟨V, hV⟩ : ∃ V, V = ((pDn s).1.cells.toArray : Array Value) := ⟨_, rfl⟩
 have HV := Lib.hid hV
 rw [← hV] at HBU HAL HVS HTS
 clear hV
 go_wp2_with (first
  | (refine wpList_builtg rfl 56 _ rfl _ _ HBU.out rfl ?_)
  | (refine wpList_store_blk rfl 56 _ _ rfl w.heap.size V rfl rfl 56 #[.int .i64 0, .int .i64 0, .int .i64 0, .int .i64 0] HBE.out HTS.out (by rw [HVS.out]; rfl) HAL.out ?_
     intro w9 hb9 hf9
     have HB9 := Lib.hid hb9
     have HF9 := Lib.hid hf9
     clear hb9 hf9))
 refine bodyPost_ret (v := .agg V) (results_cell_row Tryz.results89 _ _ w.heap.size 56 V _ _ rfl HB9.out Tryz.underlying56 rfl HTS.out) rfl ⟨by rw [HV.out], ?_, ?_⟩
 · exact HR2.out.fr HF9.out (by have := HG.out; simp; omega) (fun k hk hm => HNF.out (by simp at hm; exact hm ▸ hk))
 · exact Fr.unbox HF0.out HF3.out HF9.out (Nat.le_refl _)
end Go.Proofs.YtdenpfcgghangaaGreat

namespace Go.Proofs.YtdenpfcgghangaaGreat
open Go.ChangeShapes Go.WideShapes Go.ChangeAt Go.RowKit
set_option maxRecDepth 100000
theorem i64In_of {z : Int} (h : (Lit.int .i64 z).wf = true) : i64In z := i64_of h
end Go.Proofs.YtdenpfcgghangaaGreat

namespace Go.Proofs.YtdenpfcgghangaaGreat
open Go.ChangeShapes Go.WideShapes Go.ChangeAt Go.RowKit
set_option maxRecDepth 100000
theorem pair_of_trod {H : Type} {enc : TypeId × Value → H} {W : World} {sp : Nat → Bool} {held : Bool} {ty : TypeId} {x y : Field} (hu : Tryz.prog.underlying ty = some (.struct #[x, y])) (hx : x.type = 3 ∧ x.offset = 0) (hy : y.type = 3 ∧ y.offset = 1) (hc2 : Tryz.prog.cellsOf ty = 2)
  {fuel : Nat} {cs : List Value} {r : DataW H × List MemPlace} (h : DataW.trod enc Tryz.prog W 0 sp held fuel ty cs = some r) : ∃ c s : Int, i64In c ∧ i64In s ∧ cs = [.int .i64 c, .int .i64 s] := by
 obtain ⟨xs, m, _, _, hlen, hxl, hat⟩ := DataW.trod_struct hu h
 rw [hc2] at hlen
 have c1 : Tryz.prog.cellsOf 3 = 1 := by kernel_rfl
 have hx2 : ∀ i (hi : i < 2), xs[i]? = some (xs[i]'(by rw [hxl]; exact hi)) := fun i hi => List.getElem?_eq_getElem _
 have f0 : DataW.trod enc Tryz.prog W 0 sp held m x.type ((cs.drop x.offset).take (Tryz.prog.cellsOf x.type)) = _ := (hat 0 _ rfl).trans (hx2 0 (by omega))
 have f1 : DataW.trod enc Tryz.prog W 0 sp held m y.type ((cs.drop y.offset).take (Tryz.prog.cellsOf y.type)) = _ := (hat 1 _ rfl).trans (hx2 1 (by omega))
 rw [hx.1, hx.2, c1] at f0
 rw [hy.1, hy.2, c1] at f1
 obtain ⟨c, e0, _, w0⟩ := DataW.trod_int Tryz.underlying3 f0
 obtain ⟨s, e1, _, w1⟩ := DataW.trod_int Tryz.underlying3 f1
 refine ⟨c, s, i64In_of w0, i64In_of w1, ?_⟩
 match hL : cs, hlen with
 | [x, y], _ =>
   simp at e0 e1
   rw [e0, e1]
end Go.Proofs.YtdenpfcgghangaaGreat

namespace Go.Proofs.YtdenpfcgghangaaGreat
open Go.ChangeShapes Go.WideShapes Go.ChangeAt Go.RowKit
set_option maxRecDepth 100000
theorem cut_at {α : Type} (l : List α) (o n k : Nat) (hk : o + n = k) : l.drop o = (l.drop o).take n ++ l.drop k := by
 subst hk
 rw [← List.drop_drop, List.take_append_drop]
end Go.Proofs.YtdenpfcgghangaaGreat

namespace Go.Proofs.YtdenpfcgghangaaGreat
open Go.RowKit
set_option maxRecDepth 100000
structure Wpr where
 r : Int
 e : Int
 t : Nat
 A : Option Addr
 n : Nat
 d : Nat
 l : List Wce
 b : Int
 m : Int
def Wpr.cells (x : Wpr) : List Value := [.int .i64 x.r, .int .i64 x.e, .int .u64 (x.t : Int), .slice x.A x.n x.d, .int .i64 x.b, .int .i64 x.m]
def Wpr.val (x : Wpr) : Value := .agg x.cells.toArray
structure Wpr.Ok (w : World) (S : List Nat) (x : Wpr) : Prop where
 r : i64In x.r
 e : i64In x.e
 t : x.t < 18446744073709551616
 l : Lst 38 Wce.cells (fun w v => v.Ok w S) w x.A x.n x.l
 n : x.n ≤ 3
 ap : 0 < x.n → ∀ a, x.A = some a → ¬ a.block ∈ S
 b : i64In x.b
 m : i64In x.m
theorem Wpr.one (x : Wpr) : ∀ v ∈ x.cells, v.oneCell' = true := by
 intro v hv
 simp only [Wpr.cells, List.mem_cons, List.not_mem_nil, or_false] at hv
 rcases hv with rfl | rfl | rfl | rfl | rfl | rfl <;> rfl
theorem Wpr.Ok.keep {w W : World} {S S' : List Nat} {x : Wpr} (h : x.Ok w S) (hf : Fr S w W) (hs : ∀ k ∈ S', k < w.heap.size → k ∈ S) : x.Ok W S' :=
 ⟨h.r, h.e, h.t, h.l.keep' hf h.ap (fun _ _ h => h.keep hf hs), h.n, fun hn a ha hin => h.ap hn a ha (hs _ hin (h.l.lt hn (by decide) (fun v hv => Wce.len (h.l.2.1 v hv).2.k.h) a ha)), h.b, h.m⟩
def Wpr.bare (x : Wpr) : List UInt8 := encI x.r ++ encI x.e ++ enc x.t ++ listL Wce.full x.l
def Wpr.full (x : Wpr) : List UInt8 := x.bare ++ sgL x.b x.m
theorem Wpr.bare_len {w : World} {S : List Nat} {x : Wpr} (hx : x.Ok w S) : x.bare.length ≤ 2200 := by
 have b0 := encI_len x.r hx.r.2
 have b1 := encI_len x.e hx.e.2
 have b2 := enc_ten hx.t
 have b3 := encI_len (x.l.length : Int) (by have := hx.n; have := hx.l.1; omega)
 have b4 : (x.l.flatMap Wce.full).length ≤ 3 * 700 := flat_len (fun v hv => Wce.full_len (hx.l.2.1 v hv).2) (by have := hx.n; have := hx.l.1; omega)
 simp only [Wpr.bare, listL, List.length_append]
 omega
theorem Wpr.full_len {w : World} {S : List Nat} {x : Wpr} (hx : x.Ok w S) : x.full.length ≤ 2300 := by
 have b0 := Wpr.bare_len hx
 have b1 := encI_len x.b hx.b.2
 have b2 := encI_len x.m hx.m.2
 simp only [Wpr.full, sgL, List.length_append]
 omega
theorem Wpr.len (x : Wpr) : x.cells.length = 6 := rfl
end Go.Proofs.YtdenpfcgghangaaGreat

namespace Go.Proofs.YtdenpfcgghangaaGreat
open Go.RowKit
set_option maxRecDepth 100000
theorem row_opn : RowTy Tryz.prog 54 34 := ⟨by kernel_rfl, by kernel_rfl⟩
theorem row_tmb : RowTy Tryz.prog 132 2 := ⟨by kernel_rfl, by kernel_rfl⟩
theorem row_bat : RowTy Tryz.prog 45 5 := ⟨by kernel_rfl, by kernel_rfl⟩
structure Wop where
 i : Int
 A : Option Addr
 n : Nat
 d : Nat
 p : List UInt8
 h : List UInt8
def Wop.cells (x : Wop) : List Value := [.int .i64 x.i, .slice x.A x.n x.d] ++ (x.h.map by8 ++ [])
def Wop.val (x : Wop) : Value := .agg x.cells.toArray
structure Wop.Ok (w : World) (S : List Nat) (x : Wop) : Prop where
 i : i64In x.i
 p : By w x.A x.n x.p
 n : x.n ≤ 260
 ap : ∀ k ∈ bk x.A, ¬ k ∈ S
 lt : ∀ k ∈ bk x.A, k < w.heap.size
 h : x.h.length = 32
 d : x.n ≤ x.d
theorem Wop.len {x : Wop} (h : x.h.length = 32) : x.cells.length = 34 := by simp [Wop.cells, h]
theorem Wop.one (x : Wop) : ∀ v ∈ x.cells, v.oneCell' = true := by
 intro v hv
 simp only [Wop.cells, List.mem_cons, List.mem_append, List.not_mem_nil, or_false] at hv
 rcases hv with (rfl | rfl) | hv
 · rfl
 · rfl
 · exact by8_one x.h v hv
theorem Wop.Ok.keep {w W : World} {S S' : List Nat} {x : Wop} (h : x.Ok w S) (hf : Fr S w W) (hs : ∀ k ∈ S', k < w.heap.size → k ∈ S) : x.Ok W S' :=
 ⟨h.i, h.p.keep hf (fun a ha => h.ap _ (by rw [ha]; simp [bk])), h.n, fun k hk hin => h.ap k hk (hs k hin (h.lt k hk)), fun k hk => Nat.lt_of_lt_of_le (h.lt k hk) hf.size, h.h, h.d⟩
def Wop.full (x : Wop) : List UInt8 := encI x.i ++ (enc x.n ++ x.p) ++ x.h
theorem Wop.full_len {w : World} {S : List Nat} {x : Wop} (hx : x.Ok w S) : x.full.length ≤ 320 := by
 have b0 := encI_len x.i hx.i.2
 have b1 : (enc x.n).length ≤ 10 := enc_ten (by have := hx.n; omega)
 have b2 := hx.p.1
 have b3 := hx.n
 have b4 := hx.h
 simp only [Wop.full, List.length_append]
 omega
structure Wtb where
 i : Int
 A : Option Addr
 n : Nat
 d : Nat
 l : List Wdn
def Wtb.cells (x : Wtb) : List Value := [.int .i64 x.i, .slice x.A x.n x.d]
def Wtb.val (x : Wtb) : Value := .agg x.cells.toArray
structure Wtb.Ok (w : World) (S : List Nat) (x : Wtb) : Prop where
 i : i64In x.i
 l : Lst 4 Wdn.cells (fun _ v => v.Ok) w x.A x.n x.l
 n : x.n ≤ 5
 ap : 0 < x.n → ∀ a, x.A = some a → ¬ a.block ∈ S
theorem Wtb.one (x : Wtb) : ∀ v ∈ x.cells, v.oneCell' = true := by
 intro v hv
 simp only [Wtb.cells, List.mem_cons, List.not_mem_nil, or_false] at hv
 rcases hv with rfl | rfl <;> rfl
theorem Wtb.Ok.keep {w W : World} {S S' : List Nat} {x : Wtb} (h : x.Ok w S) (hf : Fr S w W) (hs : ∀ k ∈ S', k < w.heap.size → k ∈ S) : x.Ok W S' :=
 ⟨h.i, h.l.keep' hf h.ap (fun _ _ h => h), h.n, fun hn a ha hin => h.ap hn a ha (hs _ hin (h.l.lt hn (by decide) (fun v hv => Wdn.len v) a ha))⟩
def Wtb.full (x : Wtb) : List UInt8 := encI x.i ++ listL Wdn.full x.l
theorem Wdn.full_len {x : Wdn} (hx : x.Ok) : x.full.length ≤ 100 := by
 have b0 := Wdn.bare_len hx
 have b1 := encI_len x.b hx.b.2
 have b2 := encI_len x.m hx.m.2
 simp only [Wdn.full, sgL, List.length_append]
 omega
theorem Wtb.full_len {w : World} {S : List Nat} {x : Wtb} (hx : x.Ok w S) : x.full.length ≤ 520 := by
 have b0 := encI_len x.i hx.i.2
 have b1 := encI_len (x.l.length : Int) (by have := hx.n; have := hx.l.1; omega)
 have b2 : (x.l.flatMap Wdn.full).length ≤ 5 * 100 := flat_len (fun v hv => Wdn.full_len (hx.l.2.1 v hv).2) (by have := hx.n; have := hx.l.1; omega)
 simp only [Wtb.full, listL, List.length_append]
 omega
end Go.Proofs.YtdenpfcgghangaaGreat

namespace Go.Proofs.YtdenpfcgghangaaGreat
open Go.RowKit
set_option maxRecDepth 100000
structure Wba where
 e : Int
 t : Nat
 A : Option Addr
 n : Nat
 d : Nat
 l : List Wpr
 A2 : Option Addr
 n2 : Nat
 d2 : Nat
 l2 : List Wop
 A3 : Option Addr
 n3 : Nat
 d3 : Nat
 l3 : List Wtb
def Wba.cells (x : Wba) : List Value := [.int .i64 x.e, .int .u64 (x.t : Int), .slice x.A x.n x.d, .slice x.A2 x.n2 x.d2, .slice x.A3 x.n3 x.d3]
def Wba.val (x : Wba) : Value := .agg x.cells.toArray
structure Wba.Ok (w : World) (S : List Nat) (x : Wba) : Prop where
 e : i64In x.e
 t : x.t < 18446744073709551616
 l : Lst 6 Wpr.cells (fun w v => v.Ok w S) w x.A x.n x.l
 n : x.n ≤ 4
 ap : 0 < x.n → ∀ a, x.A = some a → ¬ a.block ∈ S
 l2 : Lst 34 Wop.cells (fun w v => v.Ok w S) w x.A2 x.n2 x.l2
 n2 : x.n2 ≤ 5
 ap2 : 0 < x.n2 → ∀ a, x.A2 = some a → ¬ a.block ∈ S
 l3 : Lst 2 Wtb.cells (fun w v => v.Ok w S) w x.A3 x.n3 x.l3
 n3 : x.n3 ≤ 5
 ap3 : 0 < x.n3 → ∀ a, x.A3 = some a → ¬ a.block ∈ S
theorem Wba.one (x : Wba) : ∀ v ∈ x.cells, v.oneCell' = true := by
 intro v hv
 simp only [Wba.cells, List.mem_cons, List.not_mem_nil, or_false] at hv
 rcases hv with rfl | rfl | rfl | rfl | rfl <;> rfl
theorem Wba.len (x : Wba) : x.cells.length = 5 := rfl
theorem Wba.Ok.keep {w W : World} {S S' : List Nat} {x : Wba} (h : x.Ok w S) (hf : Fr S w W) (hs : ∀ k ∈ S', k < w.heap.size → k ∈ S) : x.Ok W S' :=
 ⟨h.e, h.t, h.l.keep' hf h.ap (fun _ _ h => h.keep hf hs), h.n, fun hn a ha hin => h.ap hn a ha (hs _ hin (h.l.lt hn (by decide) (fun _ _ => rfl) a ha)),
  h.l2.keep' hf h.ap2 (fun _ _ h => h.keep hf hs), h.n2, fun hn a ha hin => h.ap2 hn a ha (hs _ hin (h.l2.lt hn (by decide) (fun v hv => Wop.len (h.l2.2.1 v hv).2.h) a ha)),
  h.l3.keep' hf h.ap3 (fun _ _ h => h.keep hf hs), h.n3, fun hn a ha hin => h.ap3 hn a ha (hs _ hin (h.l3.lt hn (by decide) (fun _ _ => rfl) a ha))⟩
def Wba.full (x : Wba) : List UInt8 := encI x.e ++ enc x.t ++ listL Wpr.full x.l ++ listL Wop.full x.l2 ++ listL Wtb.full x.l3
theorem Wba.l_len {w : World} {S : List Nat} {x : Wba} (hx : x.Ok w S) : (listL Wpr.full x.l).length ≤ 9300 := by
 have b1 := encI_len (x.l.length : Int) (by have := hx.n; have := hx.l.1; omega)
 have b2 : (x.l.flatMap Wpr.full).length ≤ 4 * 2300 := flat_len (fun v hv => Wpr.full_len (hx.l.2.1 v hv).2) (by have := hx.n; have := hx.l.1; omega)
 simp only [listL, List.length_append]
 omega
theorem Wba.l2_len {w : World} {S : List Nat} {x : Wba} (hx : x.Ok w S) : (listL Wop.full x.l2).length ≤ 1700 := by
 have b1 := encI_len (x.l2.length : Int) (by have := hx.n2; have := hx.l2.1; omega)
 have b2 : (x.l2.flatMap Wop.full).length ≤ 5 * 320 := flat_len (fun v hv => Wop.full_len (hx.l2.2.1 v hv).2) (by have := hx.n2; have := hx.l2.1; omega)
 simp only [listL, List.length_append]
 omega
theorem Wba.l3_len {w : World} {S : List Nat} {x : Wba} (hx : x.Ok w S) : (listL Wtb.full x.l3).length ≤ 2700 := by
 have b1 := encI_len (x.l3.length : Int) (by have := hx.n3; have := hx.l3.1; omega)
 have b2 : (x.l3.flatMap Wtb.full).length ≤ 5 * 520 := flat_len (fun v hv => Wtb.full_len (hx.l3.2.1 v hv).2) (by have := hx.n3; have := hx.l3.1; omega)
 simp only [listL, List.length_append]
 omega
theorem Wba.full_len {w : World} {S : List Nat} {x : Wba} (hx : x.Ok w S) : x.full.length ≤ 14000 := by
 have b0 := encI_len x.e hx.e.2
 have b1 := enc_ten hx.t
 have b2 := Wba.l_len hx
 have b3 := Wba.l2_len hx
 have b4 := Wba.l3_len hx
 simp only [Wba.full, List.length_append]
 omega
end Go.Proofs.YtdenpfcgghangaaGreat

namespace Go.Proofs.YtdenpfcgghangaaGreat
open Go.RowKit
set_option maxRecDepth 100000
theorem NewWr.calls {P : Program} {f : FuncId} {args : Array Value} {w0 w : World} {g : Nat} {l l' : List UInt8} {v : Value} (h : NewWr w0 w g l)
  (hc : ∀ S, Wr w S g l → Fr [] w0 w → (∀ k ∈ S, w0.heap.size ≤ k) → Calls P f args w fun e w' => e = .returned v ∧ Gr w S g l' w') : Calls P f args w fun e w' => e = .returned v ∧ NewWr w0 w' g l' := by
 obtain ⟨S, k1, k2, k3⟩ := h
 refine (hc S k1 k2 k3).mono ?_
 rintro e w' ⟨rfl, hg⟩
 exact ⟨rfl, NewWr.add k2 k3 hg⟩
def wWpr : List UInt8 := [112, 114, 111, 109, 105, 115, 101]
def Wpr.text (x : Wpr) : List UInt8 := enc wWpr.length ++ wWpr ++ x.bare
def oneM (z : Int) : Nat := if z < 0 then 0 else z.toNat + 1
structure Wpo where
 e : Int
 r : Int
 v : Int
 p : Int
 k : Wba
 b : Int
 m : Int
def Wpo.cells (x : Wpo) : List Value := [.int .i64 x.e, .int .i64 x.r, .int .i64 x.v, .int .i64 x.p] ++ (x.k.cells ++ [.int .i64 x.b, .int .i64 x.m])
def Wpo.val (x : Wpo) : Value := .agg x.cells.toArray
structure Wpo.Ok (w : World) (x : Wpo) : Prop where
 e : i64In x.e
 r : i64In x.r
 v : i64In x.v
 p : i64In x.p
 k : x.k.Ok w []
 b : i64In x.b
 m : i64In x.m
theorem Wpo.len (x : Wpo) : x.cells.length = 11 := rfl
def wWpo : List UInt8 := [112, 114, 111, 112, 111, 115, 97, 108]
def Wpo.head (x : Wpo) : List UInt8 := encI x.e ++ encI x.r ++ enc (oneM x.v) ++ encI x.p
theorem Wpo.head_len {x : Wpo} (he : i64In x.e) (hr : i64In x.r) (hv : i64In x.v) (hp : i64In x.p) : x.head.length ≤ 40 := by
 have b0 := encI_len x.e he.2
 have b1 := encI_len x.r hr.2
 have b2 := encI_len x.p hp.2
 have b3 : oneM x.v < 18446744073709551616 := by have := hv.2; unfold oneM; split <;> omega
 have b4 := enc_ten b3
 simp only [Wpo.head, List.length_append]
 omega
def Wpo.text (x : Wpo) : List UInt8 := enc wWpo.length ++ wWpo ++ x.head ++ sumL x.k.full
theorem row_prop : RowTy Tryz.prog 47 11 := ⟨by kernel_rfl, by kernel_rfl⟩
end Go.Proofs.YtdenpfcgghangaaGreat

namespace Go.Proofs.YtdenpfcgghangaaGreat
open Go.RowKit
set_option maxRecDepth 100000
def NewL {α : Type} (e : TypeId) (k : Nat) (cells : α → List Value) (w w' : World) (A : Option Addr) (n c : Nat) (l : List α) : Prop :=
 w'.ownsRow 0 e k (.slice A n c) n (l.flatMap cells) ∧ Fr [] w w' ∧ ∀ x ∈ bk A, w.heap.size ≤ x
theorem cells_one {α : Type} {cells : α → List Value} (hone : ∀ v, ∀ u ∈ cells v, u.oneCell' = true) (l : List α) : ∀ u ∈ l.flatMap cells, u.oneCell' = true := by
 intro u hu
 obtain ⟨v, _, hv⟩ := List.mem_flatMap.1 hu
 exact hone v u hv
theorem cells_flat_len {α : Type} {cells : α → List Value} {k : Nat} : ∀ {l : List α}, (∀ v ∈ l, (cells v).length = k) → (l.flatMap cells).length = l.length * k
 | [], _ => by simp
 | v :: l, h => by
   rw [List.flatMap_cons, List.length_append, h v (by simp), cells_flat_len (fun u hu => h u (by simp [hu])), List.length_cons, Nat.succ_mul]
   omega
theorem flat_back {α : Type} {cells : α → List Value} {k : Nat} (hk0 : 0 < k) : ∀ {l : List α}, (∀ v ∈ l, (cells v).length = k) → ∀ {j : Nat} {u : Value}, (l.flatMap cells)[j]? = some u → ∃ v, l[j / k]? = some v ∧ (cells v)[j % k]? = some u
 | [], _, j, u, hj => by simp at hj
 | v :: l, h, j, u, hj => by
   have hv := h v (by simp)
   rw [List.flatMap_cons] at hj
   by_cases hlt : j < k
   · rw [List.getElem?_append_left (by omega)] at hj
     exact ⟨v, by rw [Nat.div_eq_of_lt hlt]; rfl, by rw [Nat.mod_eq_of_lt hlt]; exact hj⟩
   · rw [List.getElem?_append_right (by omega), hv] at hj
     obtain ⟨v', h1, h2⟩ := flat_back hk0 (fun u hu => h u (by simp [hu])) hj
     refine ⟨v', ?_, by rw [Nat.mod_eq_sub_mod (show j ≥ k by omega)]; exact h2⟩
     rw [Nat.div_eq_sub_div hk0 (show k ≤ j by omega), List.getElem?_cons_succ]
     exact h1
theorem Lst.flat {α : Type} {k : Nat} {cells : α → List Value} {ok : World → α → Prop} {w : World} {ad : Addr} {n : Nat} {l : List α} (h : Lst k cells ok w (some ad) n l) (hk : 0 < k) : ∀ j u, (l.flatMap cells)[j]? = some u → w.cell? (ad.add j) = some u := by
 intro j u hj
 obtain ⟨v, h1, h2⟩ := flat_back hk (fun v hv => (h.2.1 v hv).1) hj
 have hn : 0 < n := by
  have h3 := (List.getElem?_eq_some_iff.1 h1).1
  rw [h.1] at h3
  exact Nat.lt_of_le_of_lt (Nat.zero_le _) h3
 obtain ⟨ad', e, hc⟩ := h.2.2 hn
 injection e with e
 subst e
 have := hc _ _ h1 _ _ h2
 rwa [Nat.div_add_mod' j k] at this
section
variable {P : Program} (w : World)
theorem run_append_lst {α : Type} {cells : α → List Value} {ok : World → α → Prop} (hone : ∀ v, ∀ u ∈ cells v, u.oneCell' = true) (t ty e : TypeId) (k bytes : Nat) (ht : P.underlying t = some (.slice e)) (he : ElTy P e k bytes) (hk : 0 < k) (hby : bytes ≤ 1000)
  (A : Option Addr) (m c : Nat) (l : List α) (hr : Lst k cells ok w A m l) (hm : m ≤ 1000000) :
  ∃ A' c' w', (Builtin.append_ #[t, t] ty #[.slice none 0 0, .slice A m c]).run P w = .ok (.slice A' m c') w' ∧ NewL e k cells w w' A' m c' l := by
 obtain ⟨i, z, hi, hz, hzs, hsz, hbs⟩ := he
 have hnil : w.ownsRow 0 e k (.slice none 0 0) 0 [] := ⟨by simp, .inl ⟨rfl, rfl⟩⟩
 suffices h : ∃ v' w', (Builtin.append_ #[t, t] ty #[.slice none 0 0, .slice A m c]).run P w = .ok v' w' ∧ w'.ownsRow 0 e k v' m (l.flatMap cells) ∧ w.grownBy w' none ∧ (v'.ownBlock = none ∨ v'.ownBlock = some w.heap.size) by
  obtain ⟨v', w', h1, h2, h3, h4⟩ := h
  obtain ⟨A', c', rfl⟩ := own_form h2
  refine ⟨A', c', w', h1, h2, (Fr.refl [] w).grown h3 (by simp), fun x hx => ?_⟩
  rw [← bk_own A' m c'] at hx
  rcases h4 with h4 | h4 <;> rw [h4] at hx <;> simp at hx <;> omega
 rcases A with _ | ad
 · have hm0 : m = 0 := by
    rcases Nat.eq_zero_or_pos m with h0 | h0
    · exact h0
    · obtain ⟨ad, h, _⟩ := hr.2.2 h0
      cases h
   subst hm0
   have hn : l = [] := List.eq_nil_of_length_eq_zero hr.1
   subst hn
   exact ⟨_, w, run_append_nothing w 0 t ty e i k ht hi _ 0 [] hnil c, by simpa using hnil, World.grownBy.refl w _, .inl rfl⟩
 · obtain ⟨v', w', hrun, h2, h3, _, h5⟩ := run_append_own_at (P := P) w 0 t ty e i z k bytes ht hi hz hsz hbs hzs hk _ 0 [] hnil ad m c (l.flatMap cells)
    (by rw [cells_flat_len (fun v hv => (hr.2.1 v hv).1), hr.1]) (hr.flat hk) (cells_one hone l) (by simp only [maxLen]; omega)
    (Nat.le_trans (Nat.mul_le_mul (show 0 + m ≤ 1000000 by omega) hby) (by decide)) (Nat.zero_le _)
   exact ⟨v', w', hrun, by simpa using h2, h3, by simpa [Value.ownBlock] using h5⟩
theorem wpList_append_lst {α : Type} {cells : α → List Value} {ok : World → α → Prop} {ops : Array Oper} {rest : List Oper} {o : Oper} {a : Act} {Q : Exit → Act → World → Prop} (hgd : o.guard = none) (s x : Operand) (t : TypeId)
  (ho : o.op = .call { callee := .builtin .append, args := #[s, x], argTypes := #[t, t] }) (e : TypeId) (k bytes : Nat) (ht : P.underlying t = some (.slice e)) (he : ElTy P e k bytes) (hk : 0 < k) (hby : bytes ≤ 1000)
  (hone : ∀ v, ∀ u ∈ cells v, u.oneCell' = true) (hs : a.eval s = .slice none 0 0) (A : Option Addr) (m c : Nat) (l : List α) (hx : a.eval x = .slice A m c) (hr : Lst k cells ok w A m l) (hm : m ≤ 1000000)
  (h : ∀ A' c' w', NewL e k cells w w' A' m c' l → wpList P ops Q rest (a.put o.dst (.slice A' m c')) w') : wpList P ops Q (o :: rest) a w := by
 refine wpList_plain hgd fun K hK => ?_
 obtain ⟨A', c', w', hrun, h2⟩ := run_append_lst (P := P) w hone t o.type e k bytes ht he hk hby A m c l hr hm
 unfold Oper.wp execOp
 simp only [ho, resolve, invoke, builtin, Sem.run_bind, Sem.run_pure, Result.andThen_ok, List.map_toArray, List.map_cons, List.map_nil, hs, hx, hrun]
 exact hK _ _ (h A' c' w' h2)
end
theorem el_stamp : ElTy Tryz.prog 32 38 80 := ElTy.of (by kernel_rfl)
theorem copyStamps_any (A : Option Addr) (n c : Nat) (l : List Wst) (w : World) (hr : Lst 38 Wst.cells (fun _ v => v.Ok) w A n l) (hn : n ≤ 1000000) :
  Calls Tryz.prog 114 #[.slice A n c] w fun e w' => ∃ A' c', e = .returned (.slice A' n c') ∧ NewL 32 38 Wst.cells w w' A' n c' l := by
 have HR := Lib.hid hr
 have HN := Lib.hid hn
 clear hr hn
 go_enter Tryz.func114, Tryz.ntmps114
 go_wp2_with (at_builtin; refine Stop.mk ?_)
 refine Stop.go ?_
 refine wpList_append_lst _ rfl (.const (.slice none 0 0)) (.tmp 3) _ rfl 32 38 80 Tryz.underlying33 el_stamp (by decide) (by decide) Wst.one rfl A n c l rfl HR.out HN.out ?_
 intro A1 c1 w1 ho1
 have HO := Lib.hid ho1
 clear ho1
 go_wp2
 go_ret
 exact ⟨A1, c1, rfl, HO.out⟩
theorem cutStamps_any (A : Option Addr) (n c m : Nat) (l : List Wst) (w : World) (hr : Lst 38 Wst.cells (fun _ v => v.Ok) w A n l) (hn : n ≤ maxLen) (hc : n ≤ c) (hm : m ≤ 1000000) :
  Calls Tryz.prog 74 #[.slice A n c, .int .i64 m] w fun e w' => ∃ A' c', e = .returned (.slice A' (l.take m).length c') ∧ NewL 32 38 Wst.cells w w' A' (l.take m).length c' (l.take m) := by
 unfold maxLen at hn
 have HR := Lib.hid hr
 have HL : Hid ((l.take m).length = min m n) := by rw [List.length_take, hr.1]; rfl
 clear hr
 by_cases hnm : n ≤ m
 · have hmin : Hid (min m n = n) := Nat.min_eq_right hnm
   go_enter Tryz.func74, Tryz.ntmps74
   go_wp2_with fail
   rw [show (min (n : Int) (m : Int)).toNat = n by omega]
   refine (copyStamps_any A n c (l.take m) w (by have h := HR.out.1; rw [List.take_of_length_le (by omega)]; exact HR.out) (by omega)).mono ?_
   rintro e w1 ⟨A1, c1, rfl, hN⟩
   have HN := Lib.hid hN
   clear hN
   go_wp2
   go_ret
   rw [HL.out, hmin.out]
   exact ⟨A1, c1, rfl, HN.out⟩
 · have hmin : Hid (min m n = m) := Nat.min_eq_left (by omega)
   have hmc : m ≤ c := by omega
   go_enter Tryz.func74, Tryz.ntmps74
   go_wp2_with fail
   rw [show (min (n : Int) (m : Int)).toNat = m by omega]
   refine (copyStamps_any A m c (l.take m) w (HR.out.take (by omega)) (by omega)).mono ?_
   rintro e w1 ⟨A1, c1, rfl, hN⟩
   have HN := Lib.hid hN
   clear hN
   go_wp2
   go_ret
   rw [HL.out, hmin.out]
   exact ⟨A1, c1, rfl, HN.out⟩
end Go.Proofs.YtdenpfcgghangaaGreat

namespace Go.Proofs.YtdenpfcgghangaaGreat
open Go.RowKit
set_option maxRecDepth 100000
def zeroCe : Array Value := (Wce.cells ⟨⟨0, 0, List.replicate 32 0, 0, 0, 0⟩, none, 0, 0, []⟩).toArray
theorem set_last (K : List Value) (hK : K.length = 37) (u v : Value) : (K ++ [u]).toArray.setIfInBounds 37 v = (K ++ [v]).toArray := by
 rw [List.setIfInBounds_toArray, List.set_append_right _ _ (by omega), hK]
 rfl
set_option maxHeartbeats 1000000 in
theorem certCut_any (k : Wcm) (hk : k.Ok) (A : Option Addr) (n d : Nat) (l : List Wst) (w : World) (hl : Lst 38 Wst.cells (fun _ v => v.Ok) w A n l) (hn : n ≤ maxLen) (hd : n ≤ d) :
  Calls Tryz.prog 34 #[.agg (k.cells ++ [Value.slice A n d]).toArray] w fun e w' => ∃ A' d', e = .returned (.agg (k.cells ++ [Value.slice A' (l.take 5).length d']).toArray) ∧ NewL 32 38 Wst.cells w w' A' (l.take 5).length d' (l.take 5) := by
 obtain ⟨wa, hwa⟩ : ∃ wa, wa = (w.alloc (Obj.cells (k.cells ++ [Value.slice A n d]).toArray 35)).alloc (Obj.cells zeroCe 35) := ⟨_, rfl⟩
 have hf0 : Fr [] w wa := by rw [hwa]; exact ((Fr.refl [] w).alloc _).alloc _
 have hb0 : Blk wa w.heap.size 35 (k.cells ++ [Value.slice A n d]).toArray := by rw [hwa]; exact blk_alloc (Blk.new _ _ _)
 have hb1 : Blk wa (w.heap.size + 1) 35 zeroCe := by
  have := Blk.new (w.alloc (Obj.cells (k.cells ++ [Value.slice A n d]).toArray 35)) 35 zeroCe
  rw [hwa]
  simpa using this
 have hK : k.cells.length = 37 := Wcm.len hk.h
 have hone := Wcm.one k
 have hc : wa.cell? ⟨w.heap.size, 37, none⟩ = some (.slice A n d) := by
  have := hb0.range 37 (.slice A n d) (by rw [List.getElem?_append_right (by omega), hK]; rfl)
  simpa using this
 have HB0 := Lib.hid hb0
 have HB1 := Lib.hid hb1
 have HC := Lib.hid hc
 have HF0 := Lib.hid hf0
 have HWA := Lib.hid hwa
 have HX := Lib.hid hl
 have HK := Lib.hid hK
 have HONE := Lib.hid hone
 have HSZ : Hid (w.heap.size + 2 ≤ wa.heap.size) := Lib.hid (by have := hb1.lt; omega)
 clear hwa hf0 hb0 hb1 hc hl hK hone hk
 generalize k.cells = K at *
 go_enter Tryz.func34, Tryz.ntmps34
 go_upto_region 1 with (fail)
 change Code.wp _ _ _ _ ((w.alloc (Obj.cells (K ++ [Value.slice A n d]).toArray 35)).alloc (Obj.cells zeroCe 35))
 rw [← HWA.out]
 have hc := HC.out
 go_wp2_with fail
 refine (cutStamps_any A n d 5 l wa (HX.out.keep' HF0.out (by simp) (fun _ _ h => h)) hn hd (by decide)).mono ?_
 rintro e w1 ⟨A1, d1, rfl, hN⟩
 have hb2 := HB0.out.keep hN.2.1 (by simp)
 have hc2 := hN.2.1.cell hc (by simp)
 have HB1' := Lib.hid (HB1.out.keep hN.2.1 (by simp))
 have HN := Lib.hid hN
 have HS1 := Lib.hid (show w.heap.size + 2 ≤ w1.heap.size from Nat.le_trans HSZ.out hN.2.1.size)
 have HSET := Lib.hid (set_last K HK.out (Value.slice A n d) (Value.slice A1 (l.take 5).length d1))
 have HW2 := Lib.hid (hb2.set 37 (Value.slice A1 (l.take 5).length d1))
 have hz := hb2.frozen 37
 clear hc hN HB0 HB1
 generalize hm : (l.take 5).length = m at *
 have HM := Lib.hid hm
 clear hm
 have HSZ2 : Hid ((Tryz.prog.info? 35).map (·.size) = some (K ++ [Value.slice A1 m d1]).toArray.size) := Lib.hid (by rw [show (K ++ [Value.slice A1 m d1]).toArray.size = 38 by simp [HK.out]]; kernel_rfl)
 have HZC : Hid (zeroCe.size = (K ++ [Value.slice A1 m d1]).toArray.size) := Lib.hid (by rw [show (K ++ [Value.slice A1 m d1]).toArray.size = 38 by simp [HK.out]]; rfl)
 have HALL : Hid ((K ++ [Value.slice A1 m d1]).toArray.all (·.oneCell') = true) := Lib.hid (all_oneCell_toArray (by intro u hu; rcases List.mem_append.1 hu with h | h; exact HONE.out u h; rw [List.mem_singleton.1 h]; rfl))
 have hf2 : Fr [w.heap.size] w1 (w1.setCell ⟨w.heap.size, 37, none⟩ (Value.slice A1 m d1)) := (Fr.refl _ w1).setCell ⟨w.heap.size, 37, none⟩ (fun _ => by simp) (Value.slice A1 m d1)
 have HB1S := Lib.hid (HB1'.out.keep hf2 (by simp))
 have HF2 := Lib.hid hf2
 clear hf2
 go_wp2_with (first
  | (refine wpList_load_row rfl 35 _ rfl w.heap.size rfl 35 (K ++ [Value.slice A1 m d1]).toArray _ _ (by have := HW2.out; rw [HSET.out] at this; exact this) Tryz.underlying35 rfl HSZ2.out ?_)
  | (refine wpList_store_blk rfl 35 _ _ rfl (w.heap.size + 1) (K ++ [Value.slice A1 m d1]).toArray rfl rfl 35 zeroCe HB1S.out HSZ2.out HZC.out HALL.out ?_
     intro w3 hb3 hf3
     have HB3 := Lib.hid hb3
     have HF3 := Lib.hid hf3
     clear hb3 hf3))
 have HFa : Fr [w.heap.size, w.heap.size + 1] w1 w3 := (HF2.out.mono (by intro k hk _; simp at hk; simp [hk])).trans HF3.out (by intro k hk _; simp at hk; simp [hk])
 refine bodyPost_ret (v := .agg (K ++ [Value.slice A1 m d1]).toArray) (results_cell_row Tryz.results34 _ _ (w.heap.size + 1) 35 (K ++ [Value.slice A1 m d1]).toArray _ _ rfl HB3.out Tryz.underlying35 rfl HSZ2.out) rfl ⟨A1, d1, by rw [HM.out], ?_⟩
 rw [HM.out]
 refine ⟨own_keep HN.out.1 HFa (fun k hk hin => ?_), (HF0.out.and HN.out.2.1 (by simp)).and HFa (fun k hk => by simp at hk; omega), fun k hk => Nat.le_trans HF0.out.size (HN.out.2.2 k hk)⟩
 have h1 := HN.out.2.2 k ((bk_mem A1 m d1 k).1 hk)
 have h2 := HSZ.out
 simp at hin
 omega
theorem wpList_append_one2 {P : Program} {ops : Array Oper} {rest : List Oper} {o : Oper} {a : Act} {w : World} {Q : Exit → Act → World → Prop} (hg : o.guard = none) (s x : Operand) (t e : TypeId)
  (ho : o.op = .call { callee := .builtin .append, args := #[s, x], argTypes := #[t, t] }) (ht : P.underlying t = some (.slice e)) (k bytes : Nat) (he : ElTy P e k bytes) (hk : 0 < k)
  (base : Nat) (v : Value) (n : Nat) (xs cs : List Value) (hs : a.eval s = v) (hown : w.ownsRow base e k v n xs) (hbase : base ≤ w.heap.size) (hcl : cs.length = k) (h1 : ∀ u ∈ cs, u.oneCell' = true)
  (g : Nat) (t' : TypeId) (hx : a.eval x = .slice (some ⟨g, 0, none⟩) 1 1) (hb : Blk w g t' cs.toArray) (hn : n < 1000000) (hby : bytes ≤ 1000)
  (h : ∀ A c w', w'.ownsRow base e k (.slice A (n + 1) c) (n + 1) (xs ++ cs) → Fr v.ownBlock.toList w w' → ((Value.slice A (n + 1) c).ownBlock = v.ownBlock ∨ (Value.slice A (n + 1) c).ownBlock = some w.heap.size) → wpList P ops Q rest (a.put o.dst (.slice A (n + 1) c)) w') : wpList P ops Q (o :: rest) a w := by
 obtain ⟨i, z, hi, hz, hzs, hsz, hbs⟩ := he
 refine wpList_append_lies w hg s x t ho base e i z k bytes ht hi hz hsz hbs hzs hk v n xs hs hown ⟨g, 0, none⟩ 1 1 cs hx (by omega) (fun j u hu => ?_) h1 (by omega) (by simp only [maxLen]; omega)
  (Nat.le_trans (Nat.mul_le_mul (show n + 1 ≤ 1000000 by omega) hby) (by decide)) hbase _ rfl (fun g' cap w' h2 h3 h4 _ => ?_)
 · have hadd : (⟨g, 0, none⟩ : Addr).add j = ⟨g, j, none⟩ := by unfold Addr.add; split <;> simp_all
   rw [hadd, hb.cell j]
   simpa using hu
 · exact h _ _ w' h2 ((Fr.refl _ w).grown h3 (fun y hy _ => by simp [hy])) (h4.imp (fun e => e.symm) (fun e => by rw [e]; rfl))
theorem el_cert : ElTy Tryz.prog 35 38 96 := ElTy.of (by kernel_rfl)
def Small (ys xs : List Wce) : Prop := ys.map (fun y => (y.k, y.l)) = xs.map (fun x => (x.k, x.l.take 5))
def zeroPr : Array Value := (Wpr.cells ⟨0, 0, 0, none, 0, 0, [], 0, 0⟩).toArray
structure Wce.In (w : World) (x : Wce) : Prop where
 k : x.k.Ok
 l : Lst 38 Wst.cells (fun _ v => v.Ok) w x.A x.n x.l
 n : x.n ≤ maxLen
 d : x.n ≤ x.d
theorem Wce.In.keep {w w' : World} {x : Wce} (h : x.In w) (hf : Fr [] w w') : x.In w' := ⟨h.k, h.l.keep' hf (by simp) (fun _ _ h => h), h.n, h.d⟩
set_option maxHeartbeats 2000000 in
theorem promiseCut_any (x : Wpr) (w : World) (h1 : i64In x.r) (h2 : i64In x.e) (h3 : x.t < 18446744073709551616) (h4 : i64In x.b) (h5 : i64In x.m) (hl : Lst 38 Wce.cells (fun w v => v.In w) w x.A x.n x.l) (hn : x.n ≤ maxLen) :
  Calls Tryz.prog 35 #[.agg x.cells.toArray] w fun e w' => ∃ A' d' ys, e = .returned (.agg (Wpr.cells ⟨x.r, x.e, x.t, A', (x.l.take 3).length, d', ys, x.b, x.m⟩).toArray) ∧
   (∀ S0 : List Nat, (∀ k ∈ S0, k < w.heap.size) → (⟨x.r, x.e, x.t, A', (x.l.take 3).length, d', ys, x.b, x.m⟩ : Wpr).Ok w' S0) ∧ Small ys (x.l.take 3) ∧ Fr [] w w' := by
 obtain ⟨wa, hwa⟩ : ∃ wa, wa = (w.alloc (Obj.cells x.cells.toArray 40)).alloc (Obj.cells zeroPr 40) := ⟨_, rfl⟩
 have hf0 : Fr [] w wa := by rw [hwa]; exact ((Fr.refl [] w).alloc _).alloc _
 have hb0 : Blk wa w.heap.size 40 x.cells.toArray := by rw [hwa]; exact blk_alloc (Blk.new _ _ _)
 have hb1 : Blk wa (w.heap.size + 1) 40 zeroPr := by
  have := Blk.new (w.alloc (Obj.cells x.cells.toArray 40)) 40 zeroPr
  rw [hwa]
  simpa using this
 have hc : wa.cell? ⟨w.heap.size, 3, none⟩ = some (.slice x.A x.n x.d) := by
  have := hb0.range (cs := x.cells) 3 (.slice x.A x.n x.d) rfl
  simpa using this
 have HB0 := Lib.hid hb0
 have HB1 := Lib.hid hb1
 have HC := Lib.hid hc
 have HF0 := Lib.hid hf0
 have HWA := Lib.hid hwa
 have HX := Lib.hid hl
 have H1 := Lib.hid h1
 have H2 := Lib.hid h2
 have H3 := Lib.hid h3
 have H4 := Lib.hid h4
 have H5 := Lib.hid h5
 have HSZ : Hid (w.heap.size + 2 ≤ wa.heap.size) := Lib.hid (by have := hb1.lt; omega)
 have hxn := hl.1
 clear hwa hf0 hb0 hb1 hc hl h1 h2 h3 h4 h5
 obtain ⟨n, hn'⟩ : ∃ n, n = x.n := ⟨_, rfl⟩
 rw [← hn'] at hn hxn
 unfold maxLen at hn
 go_enter Tryz.func35, Tryz.ntmps35
 go_upto_region 1 with (fail)
 change Code.wp _ _ _ _ ((w.alloc (Obj.cells x.cells.toArray 40)).alloc (Obj.cells zeroPr 40))
 rw [← HWA.out]
 go_wp2_with fail
 go_loopw [3, 4] (fun s i wr => ∃ (k : Nat) (A4 : Option Addr) (c4 : Nat) (ys : List Wce), k ≤ n ∧ k ≤ 3 ∧ i = .int .i64 k ∧ s = .slice A4 k c4 ∧ Hid (Small ys (x.l.take k)) ∧ Hid (wr.ownsRow wa.heap.size 35 38 (.slice A4 k c4) k (ys.flatMap Wce.cells)) ∧
   Hid (∀ y ∈ ys, y.Ok wr [] ∧ ∀ a, y.A = some a → a.block < wr.heap.size ∧ wa.heap.size ≤ a.block ∧ ∀ g, (Value.slice A4 k c4).ownBlock = some g → a.block ≠ g) ∧ Hid (Fr [] wa wr)) (fun _ i _ => 3 - (intOf i).toNat)
 case atStart => exact ⟨0, none, 0, [], by omega, by omega, rfl, rfl, Lib.hid (by simp [Small]), Lib.hid ⟨by simp, .inl ⟨rfl, rfl⟩⟩, Lib.hid (by simp), Lib.hid (Fr.refl _ _)⟩
 case round =>
  obtain ⟨k, A4, c4, ys, hk, hk3, rfl, rfl, HSM, HO, HYS, HF⟩ := hrel
  have hc := HF.out.cell HC.out (by simp)
  by_cases hlt : k < n
  · by_cases hlt3 : k < 3
    · obtain ⟨ad, v, hA, hv, hcl, hok, hcells⟩ := HX.out.at (i := k) (by omega)
      rw [← hn', hA] at hc
      have hcells' : ∀ j u, v.cells[j]? = some u → wr.cell? ((ad.add (k * 38)).add j) = some u := fun j u hj => HF.out.cell (HF0.out.cell (hcells j u hj) (by simp)) (by simp)
      have HCELLS := Lib.hid hcells'
      have HCL := Lib.hid hcl
      have HIN := Lib.hid ((hok.keep HF0.out).keep HF.out)
      have HV := Lib.hid hv
      have hk0 : (0 : Int) ≤ k := by omega
      have HONE := Lib.hid (Wce.one v)
      clear hcells hcells' hcl hok hv
      have hcv : v.cells = v.k.cells ++ [Value.slice v.A v.n v.d] := rfl
      have HCV := Lib.hid hcv
      clear hcv
      generalize v.cells = C at *
      go_wp2_with (first | (refine wpList_cells rfl 35 _ rfl _ rfl C HCELLS.out (row_crt.of HCL.out) ?_))
      rw [HCV.out]
      refine (certCut_any v.k HIN.out.k v.A v.n v.d v.l wr HIN.out.l HIN.out.n HIN.out.d).mono ?_
      rintro e w1 ⟨A1, d1, rfl, hN⟩
      generalize hm : (v.l.take 5).length = m at *
      have HM := Lib.hid hm
      have hm5 : m ≤ 5 := by rw [← hm, List.length_take]; omega
      have HM5 := Lib.hid hm5
      have HN := Lib.hid hN
      have hD : (v.k.cells ++ [Value.slice A1 m d1]).length = 38 := by simp [Wcm.len HIN.out.k.h]
      have hD1 : ∀ u ∈ v.k.cells ++ [Value.slice A1 m d1], u.oneCell' = true := by
       intro u hu
       rcases List.mem_append.1 hu with h | h
       · exact Wcm.one v.k u h
       · rw [List.mem_singleton.1 h]; rfl
      have hDY : (⟨v.k, A1, m, d1, v.l.take 5⟩ : Wce).cells = v.k.cells ++ [Value.slice A1 m d1] := rfl
      generalize v.k.cells ++ [Value.slice A1 m d1] = D at *
      have HD := Lib.hid hD
      have HD1 := Lib.hid hD1
      have HDY := Lib.hid hDY
      have HO1 := Lib.hid (own_keep HO.out HN.out.2.1 (by simp))
      have HF1 := Lib.hid (HF.out.and HN.out.2.1 (by simp))
      have HLT := Lib.hid (own_lt HO.out)
      clear hN hm hm5 hD hD1 hDY HO hc
      go_wp2_with (first | (refine wpList_build_one rfl 38 35 _ rfl Tryz.underlying38 D 96 (by rw [HD.out]; exact el_cert) rfl (by rw [HD.out]; decide) (by rw [HD.out]; decide) ?_) | (at_builtin; refine Stop.mk ?_))
      refine Stop.go ?_
      refine wpList_append_one2 rfl _ _ 38 35 rfl Tryz.underlying38 38 96 el_cert (by decide) wa.heap.size (.slice A4 k c4) k _ D rfl (HO1.out.alloc _) (by have := HF1.out.size; simp; omega) HD.out HD1.out w1.heap.size 35 rfl (Blk.new _ _ _) (by omega) (by decide) ?_
      intro A9 c9 w9 ho9 hf9 hb9
      have HO9 := Lib.hid ho9
      have HF9 := Lib.hid hf9
      have HB9 := Lib.hid hb9
      clear ho9 hf9 hb9
      go_wp2
      go_roundw
      case rel =>
       refine ⟨k + 1, A9, c9, ys ++ [⟨v.k, A1, m, d1, v.l.take 5⟩], by omega, by omega, by go_num, rfl, ?_, ?_, ?_, ?_⟩
       · have e1 : x.l.take (k + 1) = x.l.take k ++ [v] := by rw [List.take_add_one, HV.out]; rfl
         have h := HSM.out
         refine Lib.hid ?_
         rw [e1]
         unfold Small at *
         rw [List.map_append, List.map_append, h]
         rfl
       · refine Lib.hid ?_
         rw [List.flatMap_append, List.flatMap_singleton, HDY.out]
         exact HO9.out
       · refine Lib.hid (fun y hy => ?_)
         have hfS : Fr (Value.slice A4 k c4).ownBlock.toList wr w9 := ((HN.out.2.1.alloc _).mono (T := (Value.slice A4 k c4).ownBlock.toList) (by simp)).trans HF9.out (fun y hy _ => hy)
         have hsz : (w1.alloc (Obj.cells D.toArray 35)).heap.size = w1.heap.size + 1 := by simp
         have hs1 := HN.out.2.1.size
         have hs9 := HF9.out.size
         rcases List.mem_append.1 hy with hy | hy
         · obtain ⟨hok, hbl⟩ := HYS.out y hy
           have hok2 : y.Ok wr (Value.slice A4 k c4).ownBlock.toList := ⟨hok.k, hok.l, hok.n, fun hn a ha hin => (hbl a ha).2.2 a.block (by simpa using hin) rfl⟩
           refine ⟨hok2.keep hfS (by simp), fun a ha => ⟨by have := (hbl a ha).1; omega, (hbl a ha).2.1, fun g hg => ?_⟩⟩
           rcases HB9.out with h | h
           · exact (hbl a ha).2.2 g (by rw [← h]; exact hg)
           · rw [h] at hg
             injection hg with hg
             have := (hbl a ha).1
             omega
         · rw [List.mem_singleton.1 hy]
           have hge : ∀ a, A1 = some a → wr.heap.size ≤ a.block := fun a ha => HN.out.2.2 a.block (by rw [ha]; simp [bk])
           have hlt : ∀ a, A1 = some a → a.block < w1.heap.size := fun a ha => own_lt HN.out.1 a.block (by rw [bk_mem, ha]; simp [bk])
           have hl1 : Lst 38 Wst.cells (fun _ v => v.Ok) w1 A1 m (v.l.take 5) := Lst.of_own HN.out.1 HM.out (fun u hu => HIN.out.l.2.1 u (List.mem_of_mem_take hu))
           refine ⟨⟨HIN.out.k, hl1.keep' (S := (Value.slice A4 k c4).ownBlock.toList) ((((Fr.refl [] w1).alloc _).mono (by simp)).trans HF9.out (fun y hy _ => hy)) (fun _ a ha hin => ?_) (fun _ _ h => h), HM5.out, by simp⟩, fun a ha => ⟨by have := hlt a ha; omega, by have := hge a ha; have := HF.out.size; omega, fun g hg => ?_⟩⟩
           · have := HLT.out a.block (by simpa using hin)
             have := hge a ha
             omega
           · rcases HB9.out with h | h
             · have := HLT.out g (by rw [← h]; exact hg)
               have := hge a ha
               omega
             · rw [h] at hg
               injection hg with hg
               have := hlt a ha
               omega
       · exact Lib.hid ((HF1.out.alloc _).and HF9.out (fun y hy => (HO1.out.lt y (by simpa using hy)).1))
      case measure => simp [intOf]; omega
    · -- three are there
      have hbx := HB0.out.keep HF.out (by simp)
      have hz := hbx.frozen 3
      have HKL : Hid ((x.l.take 3).length = k) := Lib.hid (by rw [List.length_take]; omega)
      have HTK : Hid (x.l.take k = x.l.take 3) := Lib.hid (by rcases Nat.lt_or_ge k 3 with h | h; · rw [List.take_of_length_le (by omega), List.take_of_length_le (by omega)]
                                                              · rw [show k = 3 by omega])
      have hset : x.cells.toArray.setIfInBounds 3 (Value.slice A4 k c4) = (Wpr.cells ⟨x.r, x.e, x.t, A4, k, c4, ys, x.b, x.m⟩).toArray := rfl
      have HW2 := Lib.hid (hset ▸ hbx.set 3 (Value.slice A4 k c4))
      have hf2 : Fr [w.heap.size] wr (wr.setCell ⟨w.heap.size, 3, none⟩ (Value.slice A4 k c4)) := (Fr.refl _ wr).setCell ⟨w.heap.size, 3, none⟩ (fun _ => by simp) (Value.slice A4 k c4)
      have HB1S := Lib.hid ((HB1.out.keep HF.out (by simp)).keep hf2 (by simp))
      have HF2 := Lib.hid hf2
      have HCS : Hid ((Wpr.cells ⟨x.r, x.e, x.t, A4, k, c4, ys, x.b, x.m⟩).toArray = (Wpr.cells ⟨x.r, x.e, x.t, A4, k, c4, ys, x.b, x.m⟩).toArray) := Lib.hid rfl
      have HZS : Hid ((Tryz.prog.info? 40).map (·.size) = some (Wpr.cells ⟨x.r, x.e, x.t, A4, k, c4, ys, x.b, x.m⟩).toArray.size) := Lib.hid (by kernel_rfl)
      have HAL : Hid ((Wpr.cells ⟨x.r, x.e, x.t, A4, k, c4, ys, x.b, x.m⟩).toArray.all (·.oneCell') = true) := Lib.hid (all_oneCell_toArray (Wpr.one _))
      have HZP : Hid (zeroPr.size = (Wpr.cells ⟨x.r, x.e, x.t, A4, k, c4, ys, x.b, x.m⟩).toArray.size) := Lib.hid rfl
      generalize hcc : (Wpr.cells ⟨x.r, x.e, x.t, A4, k, c4, ys, x.b, x.m⟩).toArray = CC at *
      have HCC := Lib.hid hcc
      have hc := hc
      rw [← hn'] at hc
      clear hcc hset hf2 hbx
      go_wp2_with (first
       | (refine wpList_load_row rfl 40 _ rfl w.heap.size rfl 40 CC _ _ HW2.out Tryz.underlying40 rfl HZS.out ?_)
       | (refine wpList_store_blk rfl 40 _ _ rfl (w.heap.size + 1) CC rfl rfl 40 zeroPr HB1S.out HZS.out HZP.out HAL.out ?_
          intro w3 hb3 hf3
          have HB3 := Lib.hid hb3
          have HF3 := Lib.hid hf3
          clear hb3 hf3))
      have hkm : min 3 x.n = k := by omega
      rw [hkm]
      have hyl : ys.length = k := by
       have := congrArg List.length HSM.out
       simp at this
       omega
      have HFa : Fr [w.heap.size, w.heap.size + 1] wr w3 := (HF2.out.mono (by intro k hk _; simp at hk; simp [hk])).trans HF3.out (by intro k hk _; simp at hk; simp [hk])
      have hsz := HSZ.out
      refine bodyPost_ret (v := .agg CC) (results_cell_row Tryz.results35 _ _ (w.heap.size + 1) 40 CC _ _ rfl HB3.out Tryz.underlying40 rfl HZS.out) rfl ⟨A4, c4, ys, by rw [HCC.out], fun S0 hS0 => ⟨H1.out, H2.out, H3.out, ?_, by show k ≤ 3; omega, fun _ a ha hin => ?_, H4.out, H5.out⟩, HTK.out ▸ HSM.out, (HF0.out.and HF.out (by simp)).and HFa (fun k hk => by simp at hk; omega)⟩
      · have hlw : Lst 38 Wce.cells (fun w v => v.Ok w S0) wr A4 k ys := Lst.of_own HO.out hyl (fun y hy => ⟨Wce.len (HYS.out y hy).1.k.h, (HYS.out y hy).1.k, (HYS.out y hy).1.l, (HYS.out y hy).1.n, fun hn a ha hin => by
         have h1 := ((HYS.out y hy).2 a ha).2.1
         have h2 := hS0 _ hin
         omega⟩)
        refine hlw.keep' HFa (fun _ a ha hin => ?_) (fun y hy hok => ?_)
        · have := (HO.out.lt a.block (by rw [bk_mem, ha]; simp [bk])).1
          simp at hin
          omega
        · have hok2 : y.Ok wr (w.heap.size :: (w.heap.size + 1) :: S0) := ⟨hok.k, hok.l, hok.n, fun hn a ha hin => by
           have h1 := ((HYS.out y hy).2 a ha).2.1
           simp only [List.mem_cons] at hin
           rcases hin with h | h | h
           · omega
           · omega
           · have h2 := hS0 _ h
             omega⟩
          exact hok2.keep (HFa.mono (by intro k hk _; simp at hk; rcases hk with rfl | rfl <;> simp)) (fun k hk _ => by simp [hk])
      · have ha : A4 = some a := ha
        have h1 := (HO.out.lt a.block (by rw [bk_mem, ha]; simp [bk])).1
        have h2 := hS0 _ hin
        omega
  · -- no more are there
    have hbx := HB0.out.keep HF.out (by simp)
    have hz := hbx.frozen 3
    have HKL : Hid ((x.l.take 3).length = k) := Lib.hid (by rw [List.length_take]; omega)
    have HTK : Hid (x.l.take k = x.l.take 3) := Lib.hid (by rcases Nat.lt_or_ge k 3 with h | h; · rw [List.take_of_length_le (by omega), List.take_of_length_le (by omega)]
                                                            · rw [show k = 3 by omega])
    have hset : x.cells.toArray.setIfInBounds 3 (Value.slice A4 k c4) = (Wpr.cells ⟨x.r, x.e, x.t, A4, k, c4, ys, x.b, x.m⟩).toArray := rfl
    have HW2 := Lib.hid (hset ▸ hbx.set 3 (Value.slice A4 k c4))
    have hf2 : Fr [w.heap.size] wr (wr.setCell ⟨w.heap.size, 3, none⟩ (Value.slice A4 k c4)) := (Fr.refl _ wr).setCell ⟨w.heap.size, 3, none⟩ (fun _ => by simp) (Value.slice A4 k c4)
    have HB1S := Lib.hid ((HB1.out.keep HF.out (by simp)).keep hf2 (by simp))
    have HF2 := Lib.hid hf2
    have HCS : Hid ((Wpr.cells ⟨x.r, x.e, x.t, A4, k, c4, ys, x.b, x.m⟩).toArray = (Wpr.cells ⟨x.r, x.e, x.t, A4, k, c4, ys, x.b, x.m⟩).toArray) := Lib.hid rfl
    have HZS : Hid ((Tryz.prog.info? 40).map (·.size) = some (Wpr.cells ⟨x.r, x.e, x.t, A4, k, c4, ys, x.b, x.m⟩).toArray.size) := Lib.hid (by kernel_rfl)
    have HAL : Hid ((Wpr.cells ⟨x.r, x.e, x.t, A4, k, c4, ys, x.b, x.m⟩).toArray.all (·.oneCell') = true) := Lib.hid (all_oneCell_toArray (Wpr.one _))
    have HZP : Hid (zeroPr.size = (Wpr.cells ⟨x.r, x.e, x.t, A4, k, c4, ys, x.b, x.m⟩).toArray.size) := Lib.hid rfl
    generalize hcc : (Wpr.cells ⟨x.r, x.e, x.t, A4, k, c4, ys, x.b, x.m⟩).toArray = CC at *
    have HCC := Lib.hid hcc
    have hc := hc
    rw [← hn'] at hc
    clear hcc hset hf2 hbx
    go_wp2_with (first
     | (refine wpList_load_row rfl 40 _ rfl w.heap.size rfl 40 CC _ _ HW2.out Tryz.underlying40 rfl HZS.out ?_)
     | (refine wpList_store_blk rfl 40 _ _ rfl (w.heap.size + 1) CC rfl rfl 40 zeroPr HB1S.out HZS.out HZP.out HAL.out ?_
        intro w3 hb3 hf3
        have HB3 := Lib.hid hb3
        have HF3 := Lib.hid hf3
        clear hb3 hf3))
    have hkm : min 3 x.n = k := by omega
    rw [hkm]
    have hyl : ys.length = k := by
     have := congrArg List.length HSM.out
     simp at this
     omega
    have HFa : Fr [w.heap.size, w.heap.size + 1] wr w3 := (HF2.out.mono (by intro k hk _; simp at hk; simp [hk])).trans HF3.out (by intro k hk _; simp at hk; simp [hk])
    have hsz := HSZ.out
    refine bodyPost_ret (v := .agg CC) (results_cell_row Tryz.results35 _ _ (w.heap.size + 1) 40 CC _ _ rfl HB3.out Tryz.underlying40 rfl HZS.out) rfl ⟨A4, c4, ys, by rw [HCC.out], fun S0 hS0 => ⟨H1.out, H2.out, H3.out, ?_, by show k ≤ 3; omega, fun _ a ha hin => ?_, H4.out, H5.out⟩, HTK.out ▸ HSM.out, (HF0.out.and HF.out (by simp)).and HFa (fun k hk => by simp at hk; omega)⟩
    · have hlw : Lst 38 Wce.cells (fun w v => v.Ok w S0) wr A4 k ys := Lst.of_own HO.out hyl (fun y hy => ⟨Wce.len (HYS.out y hy).1.k.h, (HYS.out y hy).1.k, (HYS.out y hy).1.l, (HYS.out y hy).1.n, fun hn a ha hin => by
       have h1 := ((HYS.out y hy).2 a ha).2.1
       have h2 := hS0 _ hin
       omega⟩)
      refine hlw.keep' HFa (fun _ a ha hin => ?_) (fun y hy hok => ?_)
      · have := (HO.out.lt a.block (by rw [bk_mem, ha]; simp [bk])).1
        simp at hin
        omega
      · have hok2 : y.Ok wr (w.heap.size :: (w.heap.size + 1) :: S0) := ⟨hok.k, hok.l, hok.n, fun hn a ha hin => by
         have h1 := ((HYS.out y hy).2 a ha).2.1
         simp only [List.mem_cons] at hin
         rcases hin with h | h | h
         · omega
         · omega
         · have h2 := hS0 _ h
           omega⟩
        exact hok2.keep (HFa.mono (by intro k hk _; simp at hk; rcases hk with rfl | rfl <;> simp)) (fun k hk _ => by simp [hk])
    · have ha : A4 = some a := ha
      have h1 := (HO.out.lt a.block (by rw [bk_mem, ha]; simp [bk])).1
      have h2 := hS0 _ hin
      omega
end Go.Proofs.YtdenpfcgghangaaGreat

namespace Go.Proofs.YtdenpfcgghangaaGreat
open Go.ChangeShapes Go.WideShapes Go.ChangeAt Go.RowKit
set_option maxRecDepth 100000
theorem lst_of_cells {α : Type} [Inhabited α] {H : Type} {enc : TypeId × Value → H} {w : World} {spare : Nat → Bool} {held : Bool} {k : Nat} {cells : α → List Value} {ok : World → α → Prop} {t e : TypeId} (ht : Tryz.prog.underlying t = some (.slice e)) (hc : Tryz.prog.cellsOf e = k)
  (hel : ∀ fuel cs (x : DataW H × List MemPlace), DataW.trod enc Tryz.prog w 0 spare held fuel e cs = some x → ∃ v : α, ok w v ∧ cs = cells v) {fuel : Nat} {cs : List Value} {x : DataW H × List MemPlace} (h : DataW.trod enc Tryz.prog w 0 spare held fuel t cs = some x) :
  ∃ A n d, ∃ l : List α, cs = [.slice A n d] ∧ Lst k cells ok w A n l ∧ n ≤ d ∧ d ≤ maxLen := by
 rcases Go.Deep.open_slice ht h with ⟨rfl, _⟩ | ⟨a, len', cap', m, n, D, Pl, rfl, _⟩
 · obtain ⟨l, h1, h2, h3⟩ := lst_of_trod ht hc hel h
   exact ⟨_, _, _, l, rfl, h1, h2, h3⟩
 · obtain ⟨l, h1, h2, h3⟩ := lst_of_trod ht hc hel h
   exact ⟨_, _, _, l, rfl, h1, h2, h3⟩
theorem stamp_of_trod {H : Type} {enc : TypeId × Value → H} {W : World} {sp : Nat → Bool} {held : Bool} {fuel : Nat} {cs : List Value} {x0 : DataW H × List MemPlace} (h : DataW.trod enc Tryz.prog W 0 sp held fuel 32 cs = some x0) :
  ∃ x : Wst, x.Ok ∧ cs = x.cells := by
 obtain ⟨xs, m, _, _, hlen, hxl, hat⟩ := DataW.trod_struct Tryz.underlying32 h
 rw [show Tryz.prog.cellsOf 32 = 38 by kernel_rfl] at hlen
 have hx : ∀ i (hi : i < 5), xs[i]? = some (xs[i]'(by rw [hxl]; exact hi)) := fun i hi => List.getElem?_eq_getElem _
 have f0 : DataW.trod enc Tryz.prog W 0 sp held m 3 ((cs.drop 0).take (Tryz.prog.cellsOf 3)) = _ := (hat 0 _ rfl).trans (hx 0 (by omega))
 rw [show Tryz.prog.cellsOf 3 = 1 by kernel_rfl] at f0
 obtain ⟨r, e0, _, w0⟩ := DataW.trod_int Tryz.underlying3 f0
 have f1 : DataW.trod enc Tryz.prog W 0 sp held m 23 ((cs.drop 1).take (Tryz.prog.cellsOf 23)) = _ := (hat 1 _ rfl).trans (hx 1 (by omega))
 rw [show Tryz.prog.cellsOf 23 = 2 by kernel_rfl] at f1
 obtain ⟨c, s, w1, w1', e1⟩ := pair_of_trod Tryz.underlying23 ⟨rfl, rfl⟩ ⟨rfl, rfl⟩ (by kernel_rfl) f1
 have f2 : DataW.trod enc Tryz.prog W 0 sp held m 25 ((cs.drop 3).take (Tryz.prog.cellsOf 25)) = _ := (hat 2 _ rfl).trans (hx 2 (by omega))
 rw [show Tryz.prog.cellsOf 25 = 32 by kernel_rfl] at f2
 obtain ⟨hh, w2, e2⟩ := hash_of_trod f2
 have f3 : DataW.trod enc Tryz.prog W 0 sp held m 30 ((cs.drop 35).take (Tryz.prog.cellsOf 30)) = _ := (hat 3 _ rfl).trans (hx 3 (by omega))
 rw [show Tryz.prog.cellsOf 30 = 1 by kernel_rfl] at f3
 obtain ⟨u3, e3, _, w3⟩ := DataW.trod_int Tryz.underlying30 f3
 obtain ⟨t, rfl, b3⟩ := u64_of w3
 have f4 : DataW.trod enc Tryz.prog W 0 sp held m 27 ((cs.drop 36).take (Tryz.prog.cellsOf 27)) = _ := (hat 4 _ rfl).trans (hx 4 (by omega))
 rw [show Tryz.prog.cellsOf 27 = 2 by kernel_rfl] at f4
 obtain ⟨b, mm, w4, w4', e4⟩ := pair_of_trod Tryz.underlying27 ⟨rfl, rfl⟩ ⟨rfl, rfl⟩ (by kernel_rfl) f4
 refine ⟨⟨r, c, s, hh, t, b, mm⟩, ⟨i64In_of w0, w1, w1', w2, b3, w4, w4'⟩, ?_⟩
 have z : cs.drop 38 = [] := List.drop_eq_nil_of_le (by omega)
 have s0 : cs = cs.drop 0 := rfl
 rw [s0, cut_at cs 0 1 1 rfl, e0, cut_at cs 1 2 3 rfl, e1, cut_at cs 3 32 35 rfl, e2, cut_at cs 35 1 36 rfl, e3, cut_at cs 36 2 38 rfl, e4, z]
 simp [Wst.cells]
theorem deny_of_trod {H : Type} {enc : TypeId × Value → H} {W : World} {sp : Nat → Bool} {held : Bool} {fuel : Nat} {cs : List Value} {x0 : DataW H × List MemPlace} (h : DataW.trod enc Tryz.prog W 0 sp held fuel 56 cs = some x0) :
  ∃ x : Wdn, x.Ok ∧ cs = x.cells := by
 obtain ⟨xs, m, _, _, hlen, hxl, hat⟩ := DataW.trod_struct Tryz.underlying56 h
 rw [show Tryz.prog.cellsOf 56 = 4 by kernel_rfl] at hlen
 have hx : ∀ i (hi : i < 3), xs[i]? = some (xs[i]'(by rw [hxl]; exact hi)) := fun i hi => List.getElem?_eq_getElem _
 have f0 : DataW.trod enc Tryz.prog W 0 sp held m 3 ((cs.drop 0).take (Tryz.prog.cellsOf 3)) = _ := (hat 0 _ rfl).trans (hx 0 (by omega))
 rw [show Tryz.prog.cellsOf 3 = 1 by kernel_rfl] at f0
 obtain ⟨r, e0, _, w0⟩ := DataW.trod_int Tryz.underlying3 f0
 have f1 : DataW.trod enc Tryz.prog W 0 sp held m 3 ((cs.drop 1).take (Tryz.prog.cellsOf 3)) = _ := (hat 1 _ rfl).trans (hx 1 (by omega))
 rw [show Tryz.prog.cellsOf 3 = 1 by kernel_rfl] at f1
 obtain ⟨i, e1, _, w1⟩ := DataW.trod_int Tryz.underlying3 f1
 have f2 : DataW.trod enc Tryz.prog W 0 sp held m 27 ((cs.drop 2).take (Tryz.prog.cellsOf 27)) = _ := (hat 2 _ rfl).trans (hx 2 (by omega))
 rw [show Tryz.prog.cellsOf 27 = 2 by kernel_rfl] at f2
 obtain ⟨b, mm, w2, w2', e2⟩ := pair_of_trod Tryz.underlying27 ⟨rfl, rfl⟩ ⟨rfl, rfl⟩ (by kernel_rfl) f2
 refine ⟨⟨r, i, b, mm⟩, ⟨i64In_of w0, i64In_of w1, w2, w2'⟩, ?_⟩
 have z : cs.drop 4 = [] := List.drop_eq_nil_of_le (by omega)
 have s0 : cs = cs.drop 0 := rfl
 rw [s0, cut_at cs 0 1 1 rfl, e0, cut_at cs 1 1 2 rfl, e1, cut_at cs 2 2 4 rfl, e2, z]
 simp [Wdn.cells]
theorem commit_of_trod {H : Type} {enc : TypeId × Value → H} {W : World} {sp : Nat → Bool} {held : Bool} {fuel : Nat} {cs : List Value} {x0 : DataW H × List MemPlace} (h : DataW.trod enc Tryz.prog W 0 sp held fuel 29 cs = some x0) :
  ∃ x : Wcm, x.Ok ∧ cs = x.cells := by
 obtain ⟨xs, m, _, _, hlen, hxl, hat⟩ := DataW.trod_struct Tryz.underlying29 h
 rw [show Tryz.prog.cellsOf 29 = 37 by kernel_rfl] at hlen
 have hx : ∀ i (hi : i < 4), xs[i]? = some (xs[i]'(by rw [hxl]; exact hi)) := fun i hi => List.getElem?_eq_getElem _
 have f0 : DataW.trod enc Tryz.prog W 0 sp held m 23 ((cs.drop 0).take (Tryz.prog.cellsOf 23)) = _ := (hat 0 _ rfl).trans (hx 0 (by omega))
 rw [show Tryz.prog.cellsOf 23 = 2 by kernel_rfl] at f0
 obtain ⟨c, s, w0, w0', e0⟩ := pair_of_trod Tryz.underlying23 ⟨rfl, rfl⟩ ⟨rfl, rfl⟩ (by kernel_rfl) f0
 have f1 : DataW.trod enc Tryz.prog W 0 sp held m 25 ((cs.drop 2).take (Tryz.prog.cellsOf 25)) = _ := (hat 1 _ rfl).trans (hx 1 (by omega))
 rw [show Tryz.prog.cellsOf 25 = 32 by kernel_rfl] at f1
 obtain ⟨hh, w1, e1⟩ := hash_of_trod f1
 have f2 : DataW.trod enc Tryz.prog W 0 sp held m 3 ((cs.drop 34).take (Tryz.prog.cellsOf 3)) = _ := (hat 2 _ rfl).trans (hx 2 (by omega))
 rw [show Tryz.prog.cellsOf 3 = 1 by kernel_rfl] at f2
 obtain ⟨n, e2, _, w2⟩ := DataW.trod_int Tryz.underlying3 f2
 have f3 : DataW.trod enc Tryz.prog W 0 sp held m 27 ((cs.drop 35).take (Tryz.prog.cellsOf 27)) = _ := (hat 3 _ rfl).trans (hx 3 (by omega))
 rw [show Tryz.prog.cellsOf 27 = 2 by kernel_rfl] at f3
 obtain ⟨b, mm, w3, w3', e3⟩ := pair_of_trod Tryz.underlying27 ⟨rfl, rfl⟩ ⟨rfl, rfl⟩ (by kernel_rfl) f3
 refine ⟨⟨c, s, hh, n, b, mm⟩, ⟨w0, w0', w1, i64In_of w2, w3, w3'⟩, ?_⟩
 have z : cs.drop 37 = [] := List.drop_eq_nil_of_le (by omega)
 have s0 : cs = cs.drop 0 := rfl
 rw [s0, cut_at cs 0 2 2 rfl, e0, cut_at cs 2 32 34 rfl, e1, cut_at cs 34 1 35 rfl, e2, cut_at cs 35 2 37 rfl, e3, z]
 simp [Wcm.cells]
instance : Inhabited Wst := ⟨⟨0, 0, 0, [], 0, 0, 0⟩⟩
instance : Inhabited Wdn := ⟨⟨0, 0, 0, 0⟩⟩
instance : Inhabited Wce := ⟨⟨⟨0, 0, [], 0, 0, 0⟩, none, 0, 0, []⟩⟩
theorem cert_of_trod {H : Type} {enc : TypeId × Value → H} {W : World} {sp : Nat → Bool} {held : Bool} {fuel : Nat} {cs : List Value} {x0 : DataW H × List MemPlace} (h : DataW.trod enc Tryz.prog W 0 sp held fuel 35 cs = some x0) :
  ∃ x : Wce, x.In W ∧ cs = x.cells := by
 obtain ⟨xs, m, _, _, hlen, hxl, hat⟩ := DataW.trod_struct Tryz.underlying35 h
 rw [show Tryz.prog.cellsOf 35 = 38 by kernel_rfl] at hlen
 have hx : ∀ i (hi : i < 2), xs[i]? = some (xs[i]'(by rw [hxl]; exact hi)) := fun i hi => List.getElem?_eq_getElem _
 have f0 : DataW.trod enc Tryz.prog W 0 sp held m 29 ((cs.drop 0).take (Tryz.prog.cellsOf 29)) = _ := (hat 0 _ rfl).trans (hx 0 (by omega))
 rw [show Tryz.prog.cellsOf 29 = 37 by kernel_rfl] at f0
 obtain ⟨k, w0, e0⟩ := commit_of_trod f0
 have f1 : DataW.trod enc Tryz.prog W 0 sp held m 33 ((cs.drop 37).take (Tryz.prog.cellsOf 33)) = _ := (hat 1 _ rfl).trans (hx 1 (by omega))
 rw [show Tryz.prog.cellsOf 33 = 1 by kernel_rfl] at f1
 obtain ⟨A, n, d, l, e1, w1, w1', w1''⟩ := lst_of_cells (cells := Wst.cells) (ok := fun _ v => v.Ok) (k := 38) Tryz.underlying33 (by kernel_rfl) (fun fuel cs x h => stamp_of_trod h) f1
 refine ⟨⟨k, A, n, d, l⟩, ⟨w0, w1, Nat.le_trans w1' w1'', w1'⟩, ?_⟩
 have z : cs.drop 38 = [] := List.drop_eq_nil_of_le (by omega)
 have s0 : cs = cs.drop 0 := rfl
 rw [s0, cut_at cs 0 37 37 rfl, e0, cut_at cs 37 1 38 rfl, e1, z]
 simp [Wce.cells]
structure Wpr.In (w : World) (x : Wpr) : Prop where
 r : i64In x.r
 e : i64In x.e
 t : x.t < 18446744073709551616
 l : Lst 38 Wce.cells (fun w v => v.In w) w x.A x.n x.l
 n : x.n ≤ maxLen
 d : x.n ≤ x.d
 b : i64In x.b
 m : i64In x.m
theorem promise_of_trod {H : Type} {enc : TypeId × Value → H} {W : World} {sp : Nat → Bool} {held : Bool} {fuel : Nat} {cs : List Value} {x0 : DataW H × List MemPlace} (h : DataW.trod enc Tryz.prog W 0 sp held fuel 40 cs = some x0) :
  ∃ x : Wpr, x.In W ∧ cs = x.cells := by
 obtain ⟨xs, m, _, _, hlen, hxl, hat⟩ := DataW.trod_struct Tryz.underlying40 h
 rw [show Tryz.prog.cellsOf 40 = 6 by kernel_rfl] at hlen
 have hx : ∀ i (hi : i < 5), xs[i]? = some (xs[i]'(by rw [hxl]; exact hi)) := fun i hi => List.getElem?_eq_getElem _
 have f0 : DataW.trod enc Tryz.prog W 0 sp held m 3 ((cs.drop 0).take (Tryz.prog.cellsOf 3)) = _ := (hat 0 _ rfl).trans (hx 0 (by omega))
 rw [show Tryz.prog.cellsOf 3 = 1 by kernel_rfl] at f0
 obtain ⟨r, e0, _, w0⟩ := DataW.trod_int Tryz.underlying3 f0
 have f1 : DataW.trod enc Tryz.prog W 0 sp held m 3 ((cs.drop 1).take (Tryz.prog.cellsOf 3)) = _ := (hat 1 _ rfl).trans (hx 1 (by omega))
 rw [show Tryz.prog.cellsOf 3 = 1 by kernel_rfl] at f1
 obtain ⟨e, e1, _, w1⟩ := DataW.trod_int Tryz.underlying3 f1
 have f2 : DataW.trod enc Tryz.prog W 0 sp held m 30 ((cs.drop 2).take (Tryz.prog.cellsOf 30)) = _ := (hat 2 _ rfl).trans (hx 2 (by omega))
 rw [show Tryz.prog.cellsOf 30 = 1 by kernel_rfl] at f2
 obtain ⟨u2, e2, _, w2⟩ := DataW.trod_int Tryz.underlying30 f2
 obtain ⟨t, rfl, b2⟩ := u64_of w2
 have f3 : DataW.trod enc Tryz.prog W 0 sp held m 38 ((cs.drop 3).take (Tryz.prog.cellsOf 38)) = _ := (hat 3 _ rfl).trans (hx 3 (by omega))
 rw [show Tryz.prog.cellsOf 38 = 1 by kernel_rfl] at f3
 obtain ⟨A, n, d, l, e3, w3, w3', w3''⟩ := lst_of_cells (cells := Wce.cells) (ok := fun w v => v.In w) (k := 38) Tryz.underlying38 (by kernel_rfl) (fun fuel cs x h => cert_of_trod h) f3
 have f4 : DataW.trod enc Tryz.prog W 0 sp held m 27 ((cs.drop 4).take (Tryz.prog.cellsOf 27)) = _ := (hat 4 _ rfl).trans (hx 4 (by omega))
 rw [show Tryz.prog.cellsOf 27 = 2 by kernel_rfl] at f4
 obtain ⟨b, mm, w4, w4', e4⟩ := pair_of_trod Tryz.underlying27 ⟨rfl, rfl⟩ ⟨rfl, rfl⟩ (by kernel_rfl) f4
 refine ⟨⟨r, e, t, A, n, d, l, b, mm⟩, ⟨i64In_of w0, i64In_of w1, b2, w3, Nat.le_trans w3' w3'', w3', w4, w4'⟩, ?_⟩
 have z : cs.drop 6 = [] := List.drop_eq_nil_of_le (by omega)
 have s0 : cs = cs.drop 0 := rfl
 rw [s0, cut_at cs 0 1 1 rfl, e0, cut_at cs 1 1 2 rfl, e1, cut_at cs 2 1 3 rfl, e2, cut_at cs 3 1 4 rfl, e3, cut_at cs 4 2 6 rfl, e4, z]
 simp [Wpr.cells]
end Go.Proofs.YtdenpfcgghangaaGreat

namespace Go.Proofs.YtdenpfcgghangaaGreat
open Go.RowKit
set_option maxRecDepth 100000
theorem el_deny : ElTy Tryz.prog 56 4 32 := ElTy.of (by kernel_rfl)
theorem copyDenies_any (A : Option Addr) (n c : Nat) (l : List Wdn) (w : World) (hr : Lst 4 Wdn.cells (fun _ v => v.Ok) w A n l) (hn : n ≤ 1000000) :
  Calls Tryz.prog 115 #[.slice A n c] w fun e w' => ∃ A' c', e = .returned (.slice A' n c') ∧ NewL 56 4 Wdn.cells w w' A' n c' l := by
 have HR := Lib.hid hr
 have HN := Lib.hid hn
 clear hr hn
 go_enter Tryz.func115, Tryz.ntmps115
 go_wp2_with (at_builtin; refine Stop.mk ?_)
 refine Stop.go ?_
 refine wpList_append_lst _ rfl (.const (.slice none 0 0)) (.tmp 3) _ rfl 56 4 32 Tryz.underlying130 el_deny (by decide) (by decide) Wdn.one rfl A n c l rfl HR.out HN.out ?_
 intro A1 c1 w1 ho1
 have HO := Lib.hid ho1
 clear ho1
 go_wp2
 go_ret
 exact ⟨A1, c1, rfl, HO.out⟩
theorem cutDenies_any (A : Option Addr) (n c m : Nat) (l : List Wdn) (w : World) (hr : Lst 4 Wdn.cells (fun _ v => v.Ok) w A n l) (hn : n ≤ maxLen) (hc : n ≤ c) (hm : m ≤ 1000000) :
  Calls Tryz.prog 75 #[.slice A n c, .int .i64 m] w fun e w' => ∃ A' c', e = .returned (.slice A' (l.take m).length c') ∧ NewL 56 4 Wdn.cells w w' A' (l.take m).length c' (l.take m) := by
 unfold maxLen at hn
 have HR := Lib.hid hr
 have HL : Hid ((l.take m).length = min m n) := by rw [List.length_take, hr.1]; rfl
 clear hr
 by_cases hnm : n ≤ m
 · have hmin : Hid (min m n = n) := Nat.min_eq_right hnm
   go_enter Tryz.func75, Tryz.ntmps75
   go_wp2_with fail
   rw [show (min (n : Int) (m : Int)).toNat = n by omega]
   refine (copyDenies_any A n c (l.take m) w (by have h := HR.out.1; rw [List.take_of_length_le (by omega)]; exact HR.out) (by omega)).mono ?_
   rintro e w1 ⟨A1, c1, rfl, hN⟩
   have HN := Lib.hid hN
   clear hN
   go_wp2
   go_ret
   rw [HL.out, hmin.out]
   exact ⟨A1, c1, rfl, HN.out⟩
 · have hmin : Hid (min m n = m) := Nat.min_eq_left (by omega)
   have hmc : m ≤ c := by omega
   go_enter Tryz.func75, Tryz.ntmps75
   go_wp2_with fail
   rw [show (min (n : Int) (m : Int)).toNat = m by omega]
   refine (copyDenies_any A m c (l.take m) w (HR.out.take (by omega)) (by omega)).mono ?_
   rintro e w1 ⟨A1, c1, rfl, hN⟩
   have HN := Lib.hid hN
   clear hN
   go_wp2
   go_ret
   rw [HL.out, hmin.out]
   exact ⟨A1, c1, rfl, HN.out⟩
theorem el_prm : ElTy Tryz.prog 40 6 64 := ElTy.of (by kernel_rfl)
theorem el_opn : ElTy Tryz.prog 54 34 64 := ElTy.of (by kernel_rfl)
theorem el_tomb : ElTy Tryz.prog 132 2 32 := ElTy.of (by kernel_rfl)
theorem keepAll {α : Type} {ok : World → List Nat → α → Prop} (hkeep : ∀ {w W : World} {S S' : List Nat} {x : α}, ok w S x → Fr S w W → (∀ k ∈ S', k < w.heap.size → k ∈ S) → ok W S' x)
  {N : Nat} {w w9 : World} {B4 B9 : List Nat} (hf : Fr B4 w w9) (hb : ∀ q ∈ B9, q ∈ B4 ∨ w.heap.size ≤ q) {x : α} (h : ∀ S0, (∀ q ∈ S0, q < N ∨ q ∈ B4) → ok w S0 x) :
  ∀ S0, (∀ q ∈ S0, q < N ∨ q ∈ B9) → ok w9 S0 x := by
 intro S0 h0
 refine hkeep (h (B4 ++ S0.filter (fun q => decide (q < N))) (fun q hq => ?_)) (hf.mono (fun k hk _ => List.mem_append.2 (.inl hk))) (fun q hq hl => ?_)
 · rcases List.mem_append.1 hq with hq | hq
   · exact .inr hq
   · exact .inl (by simpa using (List.mem_filter.1 hq).2)
 · rcases h0 q hq with h1 | h1
   · exact List.mem_append.2 (.inr (List.mem_filter.2 ⟨hq, by simpa using h1⟩))
   · rcases hb q h1 with h2 | h2
     · exact List.mem_append.2 (.inl h2)
     · omega
structure Wop.In (w : World) (x : Wop) : Prop where
 i : i64In x.i
 p : By w x.A x.n x.p
 n : x.n ≤ maxLen
 d : x.n ≤ x.d
 h : x.h.length = 32
theorem Wop.In.keep {w w' : World} {x : Wop} (h : x.In w) (hf : Fr [] w w') : x.In w' := ⟨h.i, h.p.keep hf (by simp), h.n, h.d, h.h⟩
structure Wtb.In (w : World) (x : Wtb) : Prop where
 i : i64In x.i
 l : Lst 4 Wdn.cells (fun _ v => v.Ok) w x.A x.n x.l
 n : x.n ≤ maxLen
 d : x.n ≤ x.d
theorem Wtb.In.keep {w w' : World} {x : Wtb} (h : x.In w) (hf : Fr [] w w') : x.In w' := ⟨h.i, h.l.keep' hf (by simp) (fun _ _ h => h), h.n, h.d⟩
theorem Wpr.In.keep {w w' : World} {x : Wpr} (h : x.In w) (hf : Fr [] w w') : x.In w' := ⟨h.r, h.e, h.t, h.l.keep' hf (by simp) (fun _ _ h => h.keep hf), h.n, h.d, h.b, h.m⟩
structure Wba.In (w : World) (x : Wba) : Prop where
 e : i64In x.e
 t : x.t < 18446744073709551616
 l : Lst 6 Wpr.cells (fun w v => v.In w) w x.A x.n x.l
 n : x.n ≤ maxLen
 l2 : Lst 34 Wop.cells (fun w v => v.In w) w x.A2 x.n2 x.l2
 n2 : x.n2 ≤ maxLen
 l3 : Lst 2 Wtb.cells (fun w v => v.In w) w x.A3 x.n3 x.l3
 n3 : x.n3 ≤ maxLen
theorem Wba.In.keep {w w' : World} {x : Wba} (h : x.In w) (hf : Fr [] w w') : x.In w' :=
 ⟨h.e, h.t, h.l.keep' hf (by simp) (fun _ _ h => h.keep hf), h.n, h.l2.keep' hf (by simp) (fun _ _ h => h.keep hf), h.n2, h.l3.keep' hf (by simp) (fun _ _ h => h.keep hf), h.n3⟩
structure Wpo.In (w : World) (x : Wpo) : Prop where
 e : i64In x.e
 r : i64In x.r
 v : i64In x.v
 p : i64In x.p
 k : x.k.In w
 b : i64In x.b
 m : i64In x.m
def zeroBa : Array Value := (Wba.cells ⟨0, 0, none, 0, 0, [], none, 0, 0, [], none, 0, 0, []⟩).toArray
set_option maxHeartbeats 8000000 in
theorem batchCut4_any (x : Wba) (w : World) (hx : x.In w) (C : List Value) (hC : x.cells = C) :
  Calls Tryz.prog 36 #[.agg C.toArray] w fun e w' => ∃ y : Wba, e = .returned y.val ∧ (∀ S0 : List Nat, (∀ k ∈ S0, k < w.heap.size) → y.Ok w' S0) ∧ Fr [] w w' ∧ y.n2 ≤ 4 ∧ y.n3 ≤ 4 := by
 obtain ⟨wa, hwa⟩ : ∃ wa, wa = (w.alloc (Obj.cells C.toArray 45)).alloc (Obj.cells zeroBa 45) := ⟨_, rfl⟩
 have hf0 : Fr [] w wa := by rw [hwa]; exact ((Fr.refl [] w).alloc _).alloc _
 have hb0 : Blk wa w.heap.size 45 x.cells.toArray := by rw [hwa, hC]; exact blk_alloc (Blk.new _ _ _)
 have hb1 : Blk wa (w.heap.size + 1) 45 zeroBa := by
  have := Blk.new (w.alloc (Obj.cells C.toArray 45)) 45 zeroBa
  rw [hwa]
  simpa using this
 have HC2 : Hid (wa.cell? ⟨w.heap.size, 2, none⟩ = some (.slice x.A x.n x.d)) := Lib.hid (by have h := hb0.range (cs := x.cells) 2 _ rfl; simpa using h)
 have HC3 : Hid (wa.cell? ⟨w.heap.size, 3, none⟩ = some (.slice x.A2 x.n2 x.d2)) := Lib.hid (by have h := hb0.range (cs := x.cells) 3 _ rfl; simpa using h)
 have HC4 : Hid (wa.cell? ⟨w.heap.size, 4, none⟩ = some (.slice x.A3 x.n3 x.d3)) := Lib.hid (by have h := hb0.range (cs := x.cells) 4 _ rfl; simpa using h)
 have HB0 := Lib.hid hb0
 have HB1 := Lib.hid hb1
 have HF0 := Lib.hid hf0
 have HWA := Lib.hid hwa
 have HX := Lib.hid hx
 have HSZ : Hid (w.heap.size + 2 ≤ wa.heap.size) := Lib.hid (by have := hb1.lt; omega)
 have hn1 := hx.n
 have hn2 := hx.n2
 have hn3 := hx.n3
 unfold maxLen at hn1 hn2 hn3
 have HFA : Hid (Fr [] wa wa) := Lib.hid (Fr.refl _ _)
 clear hwa hf0 hb0 hb1 hx hC
 go_enter Tryz.func36, Tryz.ntmps36
 go_upto_region 1 with (fail)
 change Code.wp _ _ _ _ ((w.alloc (Obj.cells C.toArray 45)).alloc (Obj.cells zeroBa 45))
 rw [← HWA.out]
 go_upto_block 0 with (fail)
 go_cut [3, 4] (fun s _ wx => ∃ (m : Nat) (A4 : Option Addr) (c4 : Nat) (ys : List Wpr), m ≤ 4 ∧ s = .slice A4 m c4 ∧ ys.length = m ∧ Hid (wx.ownsRow wa.heap.size 40 6 (.slice A4 m c4) m (ys.flatMap Wpr.cells)) ∧ Hid (∀ y ∈ ys, ∀ S0, (∀ q ∈ S0, q < wa.heap.size ∨ q ∈ bk A4) → y.Ok wx S0) ∧ Hid (Fr [] wa wx))
 case first =>
  have hc := HFA.out.cell HC2.out (by simp)
  go_wp2_with fail
  clear hc
  go_loopw [3, 4] (fun s i wr => (∃ (m : Nat) (A4 : Option Addr) (c4 : Nat) (ys : List Wpr), m ≤ 4 ∧ s = .slice A4 m c4 ∧ ys.length = m ∧ Hid (wr.ownsRow wa.heap.size 40 6 (.slice A4 m c4) m (ys.flatMap Wpr.cells)) ∧ Hid (∀ y ∈ ys, ∀ S0, (∀ q ∈ S0, q < wa.heap.size ∨ q ∈ bk A4) → y.Ok wr S0) ∧ Hid (Fr [] wa wr)) ∧ ∃ k : Nat, k ≤ x.n ∧ k ≤ 4 ∧ i = .int .i64 k ∧ ∃ A c, s = .slice A k c) (fun _ i _ => 4 - (intOf i).toNat)
  case atStart => exact ⟨⟨0, none, 0, [], by omega, rfl, rfl, Lib.hid ⟨by simp, .inl ⟨rfl, rfl⟩⟩, Lib.hid (by simp), Lib.hid (Fr.refl _ _)⟩, 0, by omega, by omega, rfl, _, _, rfl⟩
  case round =>
   obtain ⟨⟨k, A4, c4, ys, -, rfl, hyl, HO, HYS, HF⟩, k', hk, hk4, rfl, A', c', he⟩ := hrel
   obtain ⟨rfl, hkk, rfl⟩ : A4 = A' ∧ k = k' ∧ c4 = c' := by injection he with h1 h2 h3; exact ⟨h1, h2, h3⟩
   subst hkk
   clear he
   have HFR : Hid (Fr [] wa wr) := Lib.hid (HFA.out.and HF.out (by simp))
   have hc := HFR.out.cell HC2.out (by simp)
   have HLT : Hid (∀ q ∈ bk A4, q < wr.heap.size) := Lib.hid (fun q hq => own_lt HO.out q (by rw [bk_mem]; exact hq))
   by_cases hlt : k < x.n ∧ k < 4
   · obtain ⟨hkn, hk2⟩ := hlt
     obtain ⟨ad, v, hA, hv, hcl, hok, hcells⟩ := HX.out.l.at (i := k) hkn
     rw [hA] at hc
     have HCELLS : Hid (∀ j u, v.cells[j]? = some u → wr.cell? ((ad.add (k * 6)).add j) = some u) := Lib.hid (fun j u hj => HFR.out.cell (HF0.out.cell (hcells j u hj) (by simp)) (by simp))
     have HCLN := Lib.hid hcl
     have HIN := Lib.hid ((hok.keep HF0.out).keep HFR.out)
     have hk0 : (0 : Int) ≤ k := by omega
     have HONE := Lib.hid (Wpr.one v)
     clear hcells hcl hok hv hA
     generalize hC : v.cells = CV at *
     have HCV := Lib.hid hC
     clear hC
     go_wp2_with (first | (refine wpList_cells rfl 40 _ rfl _ rfl CV HCELLS.out (row_prm.of HCLN.out) ?_))
     rw [← HCV.out]
     refine (promiseCut_any v wr HIN.out.r HIN.out.e HIN.out.t HIN.out.b HIN.out.m HIN.out.l HIN.out.n).mono ?_
     rintro e w4 ⟨A1, d1, zs, rfl, hokN, -, hf1⟩
     generalize hy : (⟨v.r, v.e, v.t, A1, (v.l.take 3).length, d1, zs, v.b, v.m⟩ : Wpr) = y at *
     have HFX : Hid (Fr [] wr w4) := Lib.hid hf1
     have HNW : Hid (∀ S0, (∀ q ∈ S0, q < wa.heap.size ∨ q ∈ bk A4) → y.Ok w4 S0) := Lib.hid (fun S0 h0 => hokN S0 (fun q hq => by
      rcases h0 q hq with h | h
      · have := HF.out.size; omega
      · exact HLT.out q h))
     have hD : y.cells.length = 6 := Wpr.len y
     have hD1 := Wpr.one y
     obtain ⟨D, hDY⟩ : ∃ D, D = y.cells := ⟨_, rfl⟩
     rw [← hDY] at hD hD1 ⊢
     have HD := Lib.hid hD
     have HD1 := Lib.hid hD1
     have HDY := Lib.hid hDY
     have HO4 := Lib.hid (own_keep HO.out hf1 (by simp))
     clear hokN hf1 hy hD hD1 hDY hc HO
     go_wp2_with (first | (refine wpList_build_one rfl 41 40 _ rfl Tryz.underlying41 D 64 (by rw [HD.out]; exact el_prm) rfl (by rw [HD.out]; decide) (by rw [HD.out]; decide) ?_) | (at_builtin; refine Stop.mk ?_))
     refine Stop.go ?_
     refine wpList_append_one2 rfl _ _ 41 40 rfl Tryz.underlying41 6 64 el_prm (by decide) wa.heap.size (.slice A4 k c4) k _ D rfl (HO4.out.alloc _) (by have h1 := HF.out.size; have h2 := HFX.out.size; simp; omega) HD.out HD1.out w4.heap.size 40 rfl (Blk.new _ _ _) (by omega) (by decide) ?_
     intro A9 c9 w9 ho9 hf9 hb9
     have HO9 := Lib.hid ho9
     have HF9 : Hid (Fr (bk A4) (w4.alloc (Obj.cells D.toArray 40)) w9) := Lib.hid (by rw [← bk_own A4 k c4]; exact hf9)
     have HB9 : Hid (∀ q ∈ bk A9, q ∈ bk A4 ∨ w4.heap.size ≤ q) := Lib.hid (by
      intro q hq
      rw [← bk_own A9 (k + 1) c9] at hq
      rcases hb9 with h | h
      · rw [h, bk_own] at hq; exact .inl hq
      · rw [h] at hq; simp at hq; exact .inr (by omega))
     clear ho9 hf9 hb9
     go_wp2
     go_roundw
     case rel =>
      refine ⟨⟨k + 1, A9, c9, ys ++ [y], by omega, rfl, by simp [hyl], ?_, ?_, ?_⟩, k + 1, by omega, by omega, by go_num, _, _, rfl⟩
      · refine Lib.hid ?_
        rw [List.flatMap_append, List.flatMap_singleton, ← HDY.out]
        exact HO9.out
      · refine Lib.hid (fun u hu => ?_)
        have hsz := HFX.out.size
        have hfb : Fr (bk A4) w4 w9 := (((Fr.refl [] w4).alloc _).mono (by simp)).trans HF9.out (fun y hy _ => hy)
        rcases List.mem_append.1 hu with hu | hu
        · exact keepAll (ok := fun w S x => Wpr.Ok w S x) (fun h f s => h.keep f s) ((HFX.out.mono (by simp)).trans hfb (fun y hy _ => hy)) (fun q hq => (HB9.out q hq).imp id (fun h => by omega)) (HYS.out u hu)
        · rw [List.mem_singleton.1 hu]
          exact keepAll (ok := fun w S x => Wpr.Ok w S x) (fun h f s => h.keep f s) hfb HB9.out HNW.out
      · exact Lib.hid (((HF.out.and HFX.out (by simp)).alloc _).and HF9.out (fun q hq => (HO4.out.lt q (by rw [bk_mem]; exact hq)).1))
     case measure => simp [intOf]; omega
   · have hkx : (x.n : Int) ≤ k ∨ (4 : Int) ≤ k := by omega
     rcases hkx with hkx | hkx
     all_goals
      go_wp2_with fail
      all_goals
       go_meet
       exact ⟨k, A4, c4, ys, hk4, rfl, hyl, HO, HYS, HF⟩
 case rest =>
  obtain ⟨mp, Ap, cp, ysp, hmp, rfl, hlp, HOp, HQp, HFX1⟩ := hcut
  rename World => wb
  go_upto_block 2 with (fail)
  go_cut [5, 6] (fun s _ wx => ∃ (m : Nat) (A4 : Option Addr) (c4 : Nat) (ys : List Wop), m ≤ 4 ∧ s = .slice A4 m c4 ∧ ys.length = m ∧ Hid (wx.ownsRow wb.heap.size 54 34 (.slice A4 m c4) m (ys.flatMap Wop.cells)) ∧ Hid (∀ y ∈ ys, ∀ S0, (∀ q ∈ S0, q < wb.heap.size ∨ q ∈ bk A4) → y.Ok wx S0) ∧ Hid (Fr [] wb wx))
  case first =>
   have hc := HFX1.out.cell HC3.out (by simp)
   go_wp2_with fail
   clear hc
   go_loopw [5, 6] (fun s i wr => (∃ (m : Nat) (A4 : Option Addr) (c4 : Nat) (ys : List Wop), m ≤ 4 ∧ s = .slice A4 m c4 ∧ ys.length = m ∧ Hid (wr.ownsRow wb.heap.size 54 34 (.slice A4 m c4) m (ys.flatMap Wop.cells)) ∧ Hid (∀ y ∈ ys, ∀ S0, (∀ q ∈ S0, q < wb.heap.size ∨ q ∈ bk A4) → y.Ok wr S0) ∧ Hid (Fr [] wb wr)) ∧ ∃ k : Nat, k ≤ x.n2 ∧ k ≤ 4 ∧ i = .int .i64 k ∧ ∃ A c, s = .slice A k c) (fun _ i _ => 4 - (intOf i).toNat)
   case atStart => exact ⟨⟨0, none, 0, [], by omega, rfl, rfl, Lib.hid ⟨by simp, .inl ⟨rfl, rfl⟩⟩, Lib.hid (by simp), Lib.hid (Fr.refl _ _)⟩, 0, by omega, by omega, rfl, _, _, rfl⟩
   case round =>
    obtain ⟨⟨k, A4, c4, ys, -, rfl, hyl, HO, HYS, HF⟩, k', hk, hk4, rfl, A', c', he⟩ := hrel
    obtain ⟨rfl, hkk, rfl⟩ : A4 = A' ∧ k = k' ∧ c4 = c' := by injection he with h1 h2 h3; exact ⟨h1, h2, h3⟩
    subst hkk
    clear he
    have HFR : Hid (Fr [] wa wr) := Lib.hid (HFX1.out.and HF.out (by simp))
    have hc := HFR.out.cell HC3.out (by simp)
    have HLT : Hid (∀ q ∈ bk A4, q < wr.heap.size) := Lib.hid (fun q hq => own_lt HO.out q (by rw [bk_mem]; exact hq))
    by_cases hlt : k < x.n2 ∧ k < 4
    · obtain ⟨hkn, hk2⟩ := hlt
      obtain ⟨ad, v, hA, hv, hcl, hok, hcells⟩ := HX.out.l2.at (i := k) hkn
      rw [hA] at hc
      have HCELLS : Hid (∀ j u, v.cells[j]? = some u → wr.cell? ((ad.add (k * 34)).add j) = some u) := Lib.hid (fun j u hj => HFR.out.cell (HF0.out.cell (hcells j u hj) (by simp)) (by simp))
      have HCLN := Lib.hid hcl
      have HIN := Lib.hid ((hok.keep HF0.out).keep HFR.out)
      have hk0 : (0 : Int) ≤ k := by omega
      have HONE := Lib.hid (Wop.one v)
      have HC1V : Hid (v.cells[1]? = some (.slice v.A v.n v.d)) := Lib.hid rfl
      clear hcells hcl hok hv hA
      generalize hC : v.cells = CV at *
      have HCV := Lib.hid hC
      clear hC
      have hsz0 : (Tryz.prog.info? 54).map (·.size) = some CV.toArray.size := by rw [List.size_toArray, HCLN.out]; kernel_rfl
      have HSZ0 := Lib.hid hsz0
      have HCS : Hid (CV.toArray.size = 34) := Lib.hid (by rw [List.size_toArray]; exact HCLN.out)
      clear hsz0
      go_wp2_with (first
       | (refine wpList_cells rfl 54 _ rfl _ rfl CV HCELLS.out (row_opn.of HCLN.out) ?_)
       | (refine wpList_store_blk rfl 54 _ _ rfl wr.heap.size CV.toArray rfl rfl 54 _ (Blk.new wr _ _) HSZ0.out (by rw [HCS.out]; rfl) (all_oneCell_toArray HONE.out) ?_
          intro w2 hb2 hf2
          have HB2 := Lib.hid hb2
          have HF2 : Hid (Fr [] wr w2) := Lib.hid (((Fr.refl [] wr).alloc _).and hf2 (by simp))
          have hc2 : w2.cell? ⟨wr.heap.size, 1, none⟩ = some (.slice v.A v.n v.d) := (by rw [hb2.cell 1, List.getElem?_toArray]; exact HC1V.out)
          clear hb2 hf2))
      rw [show (260 : Int) = ((260 : Nat) : Int) from rfl]
      refine (cut_any v.A v.n v.d 260 v.p w2 (HIN.out.p.keep HF2.out (by simp)) HIN.out.n HIN.out.d (by decide)).mono ?_
      rintro e w3 ⟨A1, d1, rfl, hN⟩
      have hmt : (v.p.take 260).length ≤ 260 := List.length_take_le _ _
      generalize hm : (v.p.take 260).length = m at *
      have HM := Lib.hid hmt
      have HMT : Hid ((v.p.take 260).length = m) := Lib.hid hm
      have hb3 := HB2.out.keep hN.2.1 (by simp)
      have hz := hb3.frozen 1
      have hc3 := hN.2.1.cell hc2 (by simp)
      have hset : CV.toArray.setIfInBounds 1 (.slice A1 m d1) = (⟨v.i, A1, m, d1, v.p.take 260, v.h⟩ : Wop).cells.toArray := by rw [← HCV.out]; rfl
      have hb4 := hb3.set 1 (.slice A1 m d1)
      rw [hset] at hb4
      have hf4 : Fr [wr.heap.size] w3 (w3.setCell ⟨wr.heap.size, 1, none⟩ (.slice A1 m d1)) := (Fr.refl _ w3).setCell _ (fun _ => by simp) _
      have HBLT : Hid (wr.heap.size < w2.heap.size) := Lib.hid HB2.out.lt
      have HN := Lib.hid hN
      have HF4 := Lib.hid hf4
      have HLT2 : Hid (∀ q ∈ bk A1, w2.heap.size ≤ q) := Lib.hid hN.2.2
      have hD : (⟨v.i, A1, m, d1, v.p.take 260, v.h⟩ : Wop).cells.length = 34 := Wop.len HIN.out.h
      have hD1 := Wop.one (⟨v.i, A1, m, d1, v.p.take 260, v.h⟩ : Wop)
      obtain ⟨y, hy⟩ : ∃ y, y = (⟨v.i, A1, m, d1, v.p.take 260, v.h⟩ : Wop) := ⟨_, rfl⟩
      rw [← hy] at hD hD1 hb4
      obtain ⟨D, hDY⟩ : ∃ D, D = y.cells := ⟨_, rfl⟩
      rw [← hDY] at hD hD1 hb4
      have HD := Lib.hid hD
      have HD1 := Lib.hid hD1
      have HDY := Lib.hid hDY
      have HYE := Lib.hid hy
      have HSZD : Hid ((Tryz.prog.info? 54).map (·.size) = some D.toArray.size) := Lib.hid (by rw [List.size_toArray, hD]; kernel_rfl)
      have HB4 := Lib.hid hb4
      clear hN hmt hset hb4 hf4 hD hD1 hy hDY hc2 hb3 hc hm
      go_wp2_with (first | (refine wpList_load_row rfl 54 _ rfl wr.heap.size rfl 54 D.toArray _ _ HB4.out Tryz.underlying54 rfl HSZD.out ?_) | (refine wpList_build_one rfl 42 54 _ rfl Tryz.underlying42 D 64 (by rw [HD.out]; exact el_opn) rfl (by rw [HD.out]; decide) (by rw [HD.out]; decide) ?_) | (at_builtin; refine Stop.mk ?_))
      have hs34 : (w3.setCell ⟨wr.heap.size, 1, none⟩ (.slice A1 m d1)).heap.size = w3.heap.size := by simp
      generalize w3.setCell ⟨wr.heap.size, 1, none⟩ (.slice A1 m d1) = w4 at *
      have HFX : Hid (Fr [] wr w4) := Lib.hid ((HF2.out.and HN.out.2.1 (by simp)).and HF4.out (by simp))
      have HO4 := Lib.hid (own_keep HO.out HFX.out (by simp))
      have HNW : Hid (∀ S0, (∀ q ∈ S0, q < wb.heap.size ∨ q ∈ bk A4) → y.Ok w4 S0) := Lib.hid (by
       intro S0 h0
       rw [HYE.out]
       refine ⟨HIN.out.i, (NewB.by HN.out).keep HF4.out (fun a ha hin => ?_), HM.out, fun q hq hin => ?_, fun q hq => ?_, HIN.out.h, NewB.cap HN.out⟩
       · have h1 := HLT2.out a.block (by rw [ha]; simp [bk])
         have h2 := HBLT.out
         rw [List.mem_singleton.1 hin] at h1
         omega
       · have h1 := HLT2.out q hq
         have h2 := HBLT.out
         rcases h0 q hin with h | h
         · have := HF.out.size; omega
         · have := HLT.out q h; omega
       · exact Nat.lt_of_lt_of_le (NewB.lt HN.out q hq) HF4.out.size)
      clear HO hc3 hz
      refine Stop.go ?_
      refine wpList_append_one2 rfl _ _ 42 54 rfl Tryz.underlying42 34 64 el_opn (by decide) wb.heap.size (.slice A4 k c4) k _ D rfl (HO4.out.alloc _) (by have h1 := HF.out.size; have h2 := HFX.out.size; simp; omega) HD.out HD1.out w3.heap.size 54 rfl (hs34 ▸ Blk.new w4 54 D.toArray) (by omega) (by decide) ?_
      intro A9 c9 w9 ho9 hf9 hb9
      have HO9 := Lib.hid ho9
      have HF9 : Hid (Fr (bk A4) (w4.alloc (Obj.cells D.toArray 54)) w9) := Lib.hid (by rw [← bk_own A4 k c4]; exact hf9)
      have HB9 : Hid (∀ q ∈ bk A9, q ∈ bk A4 ∨ w4.heap.size ≤ q) := Lib.hid (by
       intro q hq
       rw [← bk_own A9 (k + 1) c9] at hq
       rcases hb9 with h | h
       · rw [h, bk_own] at hq; exact .inl hq
       · rw [h] at hq; simp at hq; exact .inr (by omega))
      clear ho9 hf9 hb9
      go_wp2
      go_roundw
      case rel =>
       refine ⟨⟨k + 1, A9, c9, ys ++ [y], by omega, rfl, by simp [hyl], ?_, ?_, ?_⟩, k + 1, by omega, by omega, by go_num, _, _, rfl⟩
       · refine Lib.hid ?_
         rw [List.flatMap_append, List.flatMap_singleton, ← HDY.out]
         exact HO9.out
       · refine Lib.hid (fun u hu => ?_)
         have hsz := HFX.out.size
         have hfb : Fr (bk A4) w4 w9 := (((Fr.refl [] w4).alloc _).mono (by simp)).trans HF9.out (fun y hy _ => hy)
         rcases List.mem_append.1 hu with hu | hu
         · exact keepAll (ok := fun w S x => Wop.Ok w S x) (fun h f s => h.keep f s) ((HFX.out.mono (by simp)).trans hfb (fun y hy _ => hy)) (fun q hq => (HB9.out q hq).imp id (fun h => by omega)) (HYS.out u hu)
         · rw [List.mem_singleton.1 hu]
           exact keepAll (ok := fun w S x => Wop.Ok w S x) (fun h f s => h.keep f s) hfb HB9.out HNW.out
       · exact Lib.hid (((HF.out.and HFX.out (by simp)).alloc _).and HF9.out (fun q hq => (HO4.out.lt q (by rw [bk_mem]; exact hq)).1))
      case measure => simp [intOf]; omega
    · have hkx : (x.n2 : Int) ≤ k ∨ (4 : Int) ≤ k := by omega
      rcases hkx with hkx | hkx
      all_goals
       go_wp2_with fail
       all_goals
        go_meet
        exact ⟨k, A4, c4, ys, hk4, rfl, hyl, HO, HYS, HF⟩
  case rest =>
   obtain ⟨mq, Aq, cq, ysq, hmq, rfl, hlq, HOq, HQq, HFq⟩ := hcut
   have HFY : Hid (Fr [] wa wc) := Lib.hid (HFX1.out.and HFq.out (by simp))
   have HOp := Lib.hid (own_keep HOp.out HFq.out (by simp))
   have HQp : Hid (∀ y ∈ ysp, ∀ S0, (∀ q ∈ S0, q < wa.heap.size ∨ q ∈ bk Ap) → y.Ok wc S0) := Lib.hid (fun y hy => keepAll (ok := fun w S x => Wpr.Ok w S x) (fun h f s => h.keep f s) (HFq.out.mono (by simp)) (fun q hq => .inl hq) (HQp.out y hy))
   skip
   rename World => wd
   go_upto_block 4 with (fail)
   go_cut [8, 9] (fun s _ wx => ∃ (m : Nat) (A4 : Option Addr) (c4 : Nat) (ys : List Wtb), m ≤ 4 ∧ s = .slice A4 m c4 ∧ ys.length = m ∧ Hid (wx.ownsRow wd.heap.size 132 2 (.slice A4 m c4) m (ys.flatMap Wtb.cells)) ∧ Hid (∀ y ∈ ys, ∀ S0, (∀ q ∈ S0, q < wd.heap.size ∨ q ∈ bk A4) → y.Ok wx S0) ∧ Hid (Fr [] wd wx))
   case first =>
    have hc := HFY.out.cell HC4.out (by simp)
    go_wp2_with fail
    clear hc
    go_loopw [8, 9] (fun s i wr => (∃ (m : Nat) (A4 : Option Addr) (c4 : Nat) (ys : List Wtb), m ≤ 4 ∧ s = .slice A4 m c4 ∧ ys.length = m ∧ Hid (wr.ownsRow wd.heap.size 132 2 (.slice A4 m c4) m (ys.flatMap Wtb.cells)) ∧ Hid (∀ y ∈ ys, ∀ S0, (∀ q ∈ S0, q < wd.heap.size ∨ q ∈ bk A4) → y.Ok wr S0) ∧ Hid (Fr [] wd wr)) ∧ ∃ k : Nat, k ≤ x.n3 ∧ k ≤ 4 ∧ i = .int .i64 k ∧ ∃ A c, s = .slice A k c) (fun _ i _ => 4 - (intOf i).toNat)
    case atStart => exact ⟨⟨0, none, 0, [], by omega, rfl, rfl, Lib.hid ⟨by simp, .inl ⟨rfl, rfl⟩⟩, Lib.hid (by simp), Lib.hid (Fr.refl _ _)⟩, 0, by omega, by omega, rfl, _, _, rfl⟩
    case round =>
     obtain ⟨⟨k, A4, c4, ys, -, rfl, hyl, HO, HYS, HF⟩, k', hk, hk4, rfl, A', c', he⟩ := hrel
     obtain ⟨rfl, hkk, rfl⟩ : A4 = A' ∧ k = k' ∧ c4 = c' := by injection he with h1 h2 h3; exact ⟨h1, h2, h3⟩
     subst hkk
     clear he
     have HFR : Hid (Fr [] wa wr) := Lib.hid (HFY.out.and HF.out (by simp))
     have hc := HFR.out.cell HC4.out (by simp)
     have HLT : Hid (∀ q ∈ bk A4, q < wr.heap.size) := Lib.hid (fun q hq => own_lt HO.out q (by rw [bk_mem]; exact hq))
     by_cases hlt : k < x.n3 ∧ k < 4
     · obtain ⟨hkn, hk2⟩ := hlt
       obtain ⟨ad, v, hA, hv, hcl, hok, hcells⟩ := HX.out.l3.at (i := k) hkn
       rw [hA] at hc
       have HCELLS : Hid (∀ j u, v.cells[j]? = some u → wr.cell? ((ad.add (k * 2)).add j) = some u) := Lib.hid (fun j u hj => HFR.out.cell (HF0.out.cell (hcells j u hj) (by simp)) (by simp))
       have HCLN := Lib.hid hcl
       have HIN := Lib.hid ((hok.keep HF0.out).keep HFR.out)
       have hk0 : (0 : Int) ≤ k := by omega
       have HONE := Lib.hid (Wtb.one v)
       have HC1V : Hid (v.cells[1]? = some (.slice v.A v.n v.d)) := Lib.hid rfl
       clear hcells hcl hok hv hA
       generalize hC : v.cells = CV at *
       have HCV := Lib.hid hC
       clear hC
       have hsz0 : (Tryz.prog.info? 132).map (·.size) = some CV.toArray.size := by rw [List.size_toArray, HCLN.out]; kernel_rfl
       have HSZ0 := Lib.hid hsz0
       have HCS : Hid (CV.toArray.size = 2) := Lib.hid (by rw [List.size_toArray]; exact HCLN.out)
       clear hsz0
       go_wp2_with (first
        | (refine wpList_cells rfl 132 _ rfl _ rfl CV HCELLS.out (row_tmb.of HCLN.out) ?_)
        | (refine wpList_store_blk rfl 132 _ _ rfl wr.heap.size CV.toArray rfl rfl 132 _ (Blk.new wr _ _) HSZ0.out (by rw [HCS.out]; rfl) (all_oneCell_toArray HONE.out) ?_
           intro w2 hb2 hf2
           have HB2 := Lib.hid hb2
           have HF2 : Hid (Fr [] wr w2) := Lib.hid (((Fr.refl [] wr).alloc _).and hf2 (by simp))
           have hc2 : w2.cell? ⟨wr.heap.size, 1, none⟩ = some (.slice v.A v.n v.d) := (by rw [hb2.cell 1, List.getElem?_toArray]; exact HC1V.out)
           clear hb2 hf2))
       rw [show (5 : Int) = ((5 : Nat) : Int) from rfl]
       refine (cutDenies_any v.A v.n v.d 5 v.l w2 (HIN.out.l.keep' HF2.out (by simp) (fun _ _ h => h)) HIN.out.n HIN.out.d (by decide)).mono ?_
       rintro e w3 ⟨A1, d1, rfl, hN⟩
       have hmt : (v.l.take 5).length ≤ 5 := List.length_take_le _ _
       generalize hm : (v.l.take 5).length = m at *
       have HM := Lib.hid hmt
       have HMT : Hid ((v.l.take 5).length = m) := Lib.hid hm
       have hb3 := HB2.out.keep hN.2.1 (by simp)
       have hz := hb3.frozen 1
       have hc3 := hN.2.1.cell hc2 (by simp)
       have hset : CV.toArray.setIfInBounds 1 (.slice A1 m d1) = (⟨v.i, A1, m, d1, v.l.take 5⟩ : Wtb).cells.toArray := by rw [← HCV.out]; rfl
       have hb4 := hb3.set 1 (.slice A1 m d1)
       rw [hset] at hb4
       have hf4 : Fr [wr.heap.size] w3 (w3.setCell ⟨wr.heap.size, 1, none⟩ (.slice A1 m d1)) := (Fr.refl _ w3).setCell _ (fun _ => by simp) _
       have HBLT : Hid (wr.heap.size < w2.heap.size) := Lib.hid HB2.out.lt
       have HN := Lib.hid hN
       have HF4 := Lib.hid hf4
       have HLT2 : Hid (∀ q ∈ bk A1, w2.heap.size ≤ q) := Lib.hid hN.2.2
       have hD : (⟨v.i, A1, m, d1, v.l.take 5⟩ : Wtb).cells.length = 2 := rfl
       have hD1 := Wtb.one (⟨v.i, A1, m, d1, v.l.take 5⟩ : Wtb)
       obtain ⟨y, hy⟩ : ∃ y, y = (⟨v.i, A1, m, d1, v.l.take 5⟩ : Wtb) := ⟨_, rfl⟩
       rw [← hy] at hD hD1 hb4
       obtain ⟨D, hDY⟩ : ∃ D, D = y.cells := ⟨_, rfl⟩
       rw [← hDY] at hD hD1 hb4
       have HD := Lib.hid hD
       have HD1 := Lib.hid hD1
       have HDY := Lib.hid hDY
       have HYE := Lib.hid hy
       have HSZD : Hid ((Tryz.prog.info? 132).map (·.size) = some D.toArray.size) := Lib.hid (by rw [List.size_toArray, hD]; kernel_rfl)
       have HB4 := Lib.hid hb4
       clear hN hmt hset hb4 hf4 hD hD1 hy hDY hc2 hb3 hc hm
       go_wp2_with (first | (refine wpList_load_row rfl 132 _ rfl wr.heap.size rfl 132 D.toArray _ _ HB4.out Tryz.underlying132 rfl HSZD.out ?_) | (refine wpList_build_one rfl 43 132 _ rfl Tryz.underlying43 D 32 (by rw [HD.out]; exact el_tomb) rfl (by rw [HD.out]; decide) (by rw [HD.out]; decide) ?_) | (at_builtin; refine Stop.mk ?_))
       have hs34 : (w3.setCell ⟨wr.heap.size, 1, none⟩ (.slice A1 m d1)).heap.size = w3.heap.size := by simp
       generalize w3.setCell ⟨wr.heap.size, 1, none⟩ (.slice A1 m d1) = w4 at *
       have HFX : Hid (Fr [] wr w4) := Lib.hid ((HF2.out.and HN.out.2.1 (by simp)).and HF4.out (by simp))
       have HO4 := Lib.hid (own_keep HO.out HFX.out (by simp))
       have HNW : Hid (∀ S0, (∀ q ∈ S0, q < wd.heap.size ∨ q ∈ bk A4) → y.Ok w4 S0) := Lib.hid (by
        intro S0 h0
        rw [HYE.out]
        refine ⟨HIN.out.i, (Lst.of_own (ok := fun (_ : World) (v : Wdn) => v.Ok) HN.out.1 HMT.out (fun u hu => HIN.out.l.2.1 u (List.mem_of_mem_take hu))).keep' (S := [wr.heap.size]) HF4.out (fun _ a ha hin => ?_) (fun _ _ h => h), HM.out, fun _ a ha hin => ?_⟩
        · have ha : A1 = some a := ha
          have h1 := HLT2.out a.block (by rw [ha]; simp [bk])
          have h2 := HBLT.out
          rw [List.mem_singleton.1 hin] at h1
          omega
        · have ha : A1 = some a := ha
          have h1 := HLT2.out a.block (by rw [ha]; simp [bk])
          have h2 := HBLT.out
          rcases h0 a.block hin with h | h
          · have := HF.out.size; omega
          · have := HLT.out a.block h; omega)
       clear HO hc3 hz
       refine Stop.go ?_
       refine wpList_append_one2 rfl _ _ 43 132 rfl Tryz.underlying43 2 32 el_tomb (by decide) wd.heap.size (.slice A4 k c4) k _ D rfl (HO4.out.alloc _) (by have h1 := HF.out.size; have h2 := HFX.out.size; simp; omega) HD.out HD1.out w3.heap.size 132 rfl (hs34 ▸ Blk.new w4 132 D.toArray) (by omega) (by decide) ?_
       intro A9 c9 w9 ho9 hf9 hb9
       have HO9 := Lib.hid ho9
       have HF9 : Hid (Fr (bk A4) (w4.alloc (Obj.cells D.toArray 132)) w9) := Lib.hid (by rw [← bk_own A4 k c4]; exact hf9)
       have HB9 : Hid (∀ q ∈ bk A9, q ∈ bk A4 ∨ w4.heap.size ≤ q) := Lib.hid (by
        intro q hq
        rw [← bk_own A9 (k + 1) c9] at hq
        rcases hb9 with h | h
        · rw [h, bk_own] at hq; exact .inl hq
        · rw [h] at hq; simp at hq; exact .inr (by omega))
       clear ho9 hf9 hb9
       go_wp2
       go_roundw
       case rel =>
        refine ⟨⟨k + 1, A9, c9, ys ++ [y], by omega, rfl, by simp [hyl], ?_, ?_, ?_⟩, k + 1, by omega, by omega, by go_num, _, _, rfl⟩
        · refine Lib.hid ?_
          rw [List.flatMap_append, List.flatMap_singleton, ← HDY.out]
          exact HO9.out
        · refine Lib.hid (fun u hu => ?_)
          have hsz := HFX.out.size
          have hfb : Fr (bk A4) w4 w9 := (((Fr.refl [] w4).alloc _).mono (by simp)).trans HF9.out (fun y hy _ => hy)
          rcases List.mem_append.1 hu with hu | hu
          · exact keepAll (ok := fun w S x => Wtb.Ok w S x) (fun h f s => h.keep f s) ((HFX.out.mono (by simp)).trans hfb (fun y hy _ => hy)) (fun q hq => (HB9.out q hq).imp id (fun h => by omega)) (HYS.out u hu)
          · rw [List.mem_singleton.1 hu]
            exact keepAll (ok := fun w S x => Wtb.Ok w S x) (fun h f s => h.keep f s) hfb HB9.out HNW.out
        · exact Lib.hid (((HF.out.and HFX.out (by simp)).alloc _).and HF9.out (fun q hq => (HO4.out.lt q (by rw [bk_mem]; exact hq)).1))
       case measure => simp [intOf]; omega
     · have hkx : (x.n3 : Int) ≤ k ∨ (4 : Int) ≤ k := by omega
       rcases hkx with hkx | hkx
       all_goals
        go_wp2_with fail
        all_goals
         go_meet
         exact ⟨k, A4, c4, ys, hk4, rfl, hyl, HO, HYS, HF⟩
   case rest =>
    obtain ⟨mr, Ar, cr, ysr, hmr, rfl, hlr, HOr, HQr, HFr⟩ := hcut
    have HFZ : Hid (Fr [] wa wc) := Lib.hid (HFY.out.and HFr.out (by simp))
    have HOp := Lib.hid (own_keep HOp.out HFr.out (by simp))
    have HOq := Lib.hid (own_keep HOq.out HFr.out (by simp))
    have HQp : Hid (∀ y ∈ ysp, ∀ S0, (∀ q ∈ S0, q < wa.heap.size ∨ q ∈ bk Ap) → y.Ok wc S0) := Lib.hid (fun y hy => keepAll (ok := fun w S x => Wpr.Ok w S x) (fun h f s => h.keep f s) (HFr.out.mono (by simp)) (fun q hq => .inl hq) (HQp.out y hy))
    have HQq : Hid (∀ y ∈ ysq, ∀ S0, (∀ q ∈ S0, q < wb.heap.size ∨ q ∈ bk Aq) → y.Ok wc S0) := Lib.hid (fun y hy => keepAll (ok := fun w S x => Wop.Ok w S x) (fun h f s => h.keep f s) (HFr.out.mono (by simp)) (fun q hq => .inl hq) (HQq.out y hy))
    have hbx := HB0.out.keep HFZ.out (by simp)
    have hz2 := hbx.frozen 2
    have hz3 := hbx.frozen 3
    have hz4 := hbx.frozen 4
    have hc2 := HFZ.out.cell HC2.out (by simp)
    have hc3 := HFZ.out.cell HC3.out (by simp)
    have hc4 := HFZ.out.cell HC4.out (by simp)
    have hset : ((x.cells.toArray.setIfInBounds 2 (.slice Ap mp cp)).setIfInBounds 3 (.slice Aq mq cq)).setIfInBounds 4 (.slice Ar mr cr) = (Wba.cells ⟨x.e, x.t, Ap, mp, cp, ysp, Aq, mq, cq, ysq, Ar, mr, cr, ysr⟩).toArray := rfl
    have hb2 := ((hbx.set 2 (.slice Ap mp cp)).set 3 (.slice Aq mq cq)).set 4 (.slice Ar mr cr)
    rw [hset] at hb2
    have hf2 : Fr [w.heap.size] wc (((wc.setCell ⟨w.heap.size, 2, none⟩ (.slice Ap mp cp)).setCell ⟨w.heap.size, 3, none⟩ (.slice Aq mq cq)).setCell ⟨w.heap.size, 4, none⟩ (.slice Ar mr cr)) := (((Fr.refl [w.heap.size] wc).setCell _ (fun _ => by simp) _).setCell _ (fun _ => by simp) _).setCell _ (fun _ => by simp) _
    have HB1S := Lib.hid ((HB1.out.keep HFZ.out (by simp)).keep hf2 (by simp))
    have HB2 := Lib.hid hb2
    have HF2 := Lib.hid hf2
    obtain ⟨y, hy⟩ : ∃ y : Wba, y = ⟨x.e, x.t, Ap, mp, cp, ysp, Aq, mq, cq, ysq, Ar, mr, cr, ysr⟩ := ⟨_, rfl⟩
    have HSZY : Hid ((Tryz.prog.info? 45).map (·.size) = some (Wba.cells ⟨x.e, x.t, Ap, mp, cp, ysp, Aq, mq, cq, ysq, Ar, mr, cr, ysr⟩).toArray.size) := Lib.hid (by kernel_rfl)
    have HALL : Hid ((Wba.cells ⟨x.e, x.t, Ap, mp, cp, ysp, Aq, mq, cq, ysq, Ar, mr, cr, ysr⟩).toArray.all (·.oneCell') = true) := Lib.hid (all_oneCell_toArray (Wba.one _))
    have HZP : Hid (zeroBa.size = (Wba.cells ⟨x.e, x.t, Ap, mp, cp, ysp, Aq, mq, cq, ysq, Ar, mr, cr, ysr⟩).toArray.size) := Lib.hid rfl
    rw [← hy] at HSZY HALL HZP HB2
    have HY := Lib.hid hy
    clear hbx hset hb2 hf2 hy
    generalize hCY : y.cells.toArray = CY at *
    have HCY := Lib.hid hCY
    clear hCY
    go_wp2_with (first
     | (refine wpList_load_row rfl 45 _ rfl w.heap.size rfl 45 CY _ _ HB2.out Tryz.underlying45 rfl HSZY.out ?_)
     | (refine wpList_store_blk rfl 45 _ _ rfl (w.heap.size + 1) CY rfl rfl 45 zeroBa HB1S.out HSZY.out HZP.out HALL.out ?_
        intro w3 hb3 hf3
        have HB3 := Lib.hid hb3
        have HF3 := Lib.hid hf3
        clear hb3 hf3))
    have HFa : Fr [w.heap.size, w.heap.size + 1] wc w3 := (HF2.out.mono (by intro k hk _; simp at hk; simp [hk])).trans HF3.out (by intro k hk _; simp at hk; simp [hk])
    have hsz := HSZ.out
    have hsb := HFX1.out.size
    have hsc := HFY.out.size
    refine bodyPost_ret (v := .agg CY) (results_cell_row Tryz.results36 _ _ (w.heap.size + 1) 45 CY _ _ rfl HB3.out Tryz.underlying45 rfl HSZY.out) rfl ⟨y, by rw [← HCY.out]; rfl, fun S0 hS0 => ?_, (HF0.out.and HFZ.out (by simp)).and HFa (fun k hk => by simp at hk; omega), by rw [HY.out]; exact hmq, by rw [HY.out]; exact hmr⟩
    have hS1 : ∀ (N : Nat) (B : List Nat), wa.heap.size ≤ N → ∀ q ∈ w.heap.size :: (w.heap.size + 1) :: S0, q < N ∨ q ∈ B := by
     intro N B hN q hq
     simp only [List.mem_cons] at hq
     rcases hq with h | h | h
     · exact .inl (by omega)
     · exact .inl (by omega)
     · have := hS0 q h; exact .inl (by omega)
    have hFb : Fr (w.heap.size :: (w.heap.size + 1) :: S0) wc w3 := HFa.mono (by intro k hk _; simp at hk; rcases hk with rfl | rfl <;> simp)
    have hin2 : ∀ k ∈ S0, k < wc.heap.size → k ∈ w.heap.size :: (w.heap.size + 1) :: S0 := fun k hk _ => by simp [hk]
    have hap : ∀ a : Addr, wa.heap.size ≤ a.block → ¬ a.block ∈ w.heap.size :: (w.heap.size + 1) :: S0 := by
     intro a ha hin
     simp only [List.mem_cons] at hin
     rcases hin with h | h | h
     · omega
     · omega
     · have := hS0 _ h; omega
    have bp : ∀ a, Ap = some a → wa.heap.size ≤ a.block := fun a ha => (HOp.out.lt a.block (by rw [bk_mem, ha]; simp [bk])).1
    have bq : ∀ a, Aq = some a → wa.heap.size ≤ a.block := fun a ha => by have := (HOq.out.lt a.block (by rw [bk_mem, ha]; simp [bk])).1; omega
    have br : ∀ a, Ar = some a → wa.heap.size ≤ a.block := fun a ha => by have := (HOr.out.lt a.block (by rw [bk_mem, ha]; simp [bk])).1; omega
    have ap0 : ∀ a : Addr, wa.heap.size ≤ a.block → ¬ a.block ∈ S0 := fun a ha hin => hap a ha (by simp [hin])
    have ap2 : ∀ a : Addr, wa.heap.size ≤ a.block → ¬ a.block ∈ [w.heap.size, w.heap.size + 1] := fun a ha hin => by simp at hin; omega
    rw [HY.out]
    refine ⟨HX.out.e, HX.out.t, ?_, hmp, fun _ a ha => ap0 a (bp a ha), ?_, Nat.le_trans hmq (by omega), fun _ a ha => ap0 a (bq a ha), ?_, Nat.le_trans hmr (by omega), fun _ a ha => ap0 a (br a ha)⟩
    · exact Lst.keep' (Lst.of_own (k := 6) (cells := Wpr.cells) (ok := fun (_ : World) (_ : Wpr) => True) HOp.out hlp (fun y hy => ⟨Wpr.len y, trivial⟩)) HFa (fun _ a ha => ap2 a (bp a ha)) (fun y hy _ => (HQp.out y hy _ (hS1 _ _ (Nat.le_refl _))).keep hFb hin2)
    · exact Lst.keep' (Lst.of_own (k := 34) (cells := Wop.cells) (ok := fun (_ : World) (_ : Wop) => True) HOq.out hlq (fun y hy => ⟨Wop.len (HQq.out y hy [] (by simp)).h, trivial⟩)) HFa (fun _ a ha => ap2 a (bq a ha)) (fun y hy _ => (HQq.out y hy _ (hS1 _ _ hsb)).keep hFb hin2)
    · exact Lst.keep' (Lst.of_own (k := 2) (cells := Wtb.cells) (ok := fun (_ : World) (_ : Wtb) => True) HOr.out hlr (fun y hy => ⟨rfl, trivial⟩)) HFa (fun _ a ha => ap2 a (br a ha)) (fun y hy _ => (HQr.out y hy _ (hS1 _ _ (by omega))).keep hFb hin2)
theorem batchCut_any (x : Wba) (w : World) (hx : x.In w) (C : List Value) (hC : x.cells = C) :
  Calls Tryz.prog 36 #[.agg C.toArray] w fun e w' => ∃ y : Wba, e = .returned y.val ∧ (∀ S0 : List Nat, (∀ k ∈ S0, k < w.heap.size) → y.Ok w' S0) ∧ Fr [] w w' :=
 (batchCut4_any x w hx C hC).mono fun _ _ ⟨y, h1, h2, h3, _⟩ => ⟨y, h1, h2, h3⟩
end Go.Proofs.YtdenpfcgghangaaGreat
