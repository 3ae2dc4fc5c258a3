/- Texts that the proof stands on: Votes, acks, entries, decided, messages that come in: what their reading says of cells. (written by gen_mo.py) | msgs.Pack of any message. | Cells in the middle of a block; gavellaw05's up, niceName, niceSig. (written by gen_nic.py) | gavellaw05's nice: a certificate of numbers from 0 on, not too great. (written by gen_nic2.py) | A message of nothing but its kind; msgs.Unpack of bytes of no kind. | msgs.get, kind by kind. (written by gen_mh.py) | msgs.get of the kinds that store more than a part. (written by gen_mi.py) | Package part: slices.Clone of stamps, votes, denials; CopyCert, CopyOpening, copyTomb. (written by gen_mcp.py) | '==' of two structs in a region that draws its order. | Equality of structs, field by field: names, signatures, stamps, votes, denials. | gavelkeep's Openings and Tombs of one list on both sides. (written by gen_slf.py) | Package part: copyList, CopyPromise, CopyBatch, CopyProposal, CopyDecided. (written by gen_mcp.py) | Package part: CopyBatch, CopyProposal, CopyDecided. (written by gen_mcp.py) | Package wire: GetCert, GetPromise, GetBatch: all of it, or the zero value. (written by gen_rp4.py) | A message as it is read; msgs.get of any kind. (written by gen_mj.py) | gavellaw06.wakes. | No number's bytes are the beginning of another one's. | Messages of small numbers: their bytes tell them apart. | gavellaw06.tiny: a message of small numbers. (written by gen_mtb.py) -/
import Derived.Test.YtpcnedpheplofaaGreatKP2
import Derived.Laws.ResultCell
import Derived.Lib.LazyBuf
import Derived.Test.YtpcnedpheplofaaGreatReg
import Derived.Test.YtpcnedpheplofaaGreatRead
import Derived.Laws.StructEq
import Derived.Test.YtpcnedpheplofaaGreatWr
import Derived.Deep.CutBlock
set_option linter.unusedSimpArgs false
set_option linter.unusedVariables false
set_option maxRecDepth 100000

namespace Go.Proofs.YtpcnedpheplofaaGreat
open Go.ChangeShapes Go.WideShapes Go.ChangeAt Go.RowKit
set_option maxRecDepth 100000
instance : Inhabited Wvt := ⟨⟨0, 0, 0, 0, [], 0, 0⟩⟩
structure Wdc.In (w : World) (x : Wdc) : Prop where
 e : i64In x.e
 r : i64In x.r
 k : x.k.In w
 l : Lst 38 Wvt.cells (fun _ v => v.Ok) w x.A x.n x.l
 n : x.n ≤ maxLen
 d : x.n ≤ x.d
structure Wmg.In (w : World) (x : Wmg) : Prop where
 q : i64In x.q
 f : i64In x.f
 t : i64In x.t
 cm : x.cm.Ok
 st : x.st.Ok
 ce : x.ce.In w
 ak : x.ak.Ok
 e : i64In x.e
 r : i64In x.r
 tm : x.tm < 18446744073709551616
 pr : x.pr.In w
 po : x.po.In w
 vt : x.vt.Ok
 i : i64In x.i
 en : x.en.Ok
 op : x.op.In w
 dn : x.dn.Ok
 rp : x.rp.length ≤ maxLen
 de : x.de.In w
def Wmg.val (x : Wmg) : Value := .agg x.cells.toArray
theorem vote_of_trod {H : Type} {enc : TypeId × Value → H} {W : World} {sp : Nat → Bool} {held : Bool} {fuel : Nat} {cs : List Value} {x0 : DataW H × List MemPlace} (h : DataW.trod enc Tryz.prog W 0 sp held fuel 49 cs = some x0) :
  ∃ x : Wvt, x.Ok ∧ cs = x.cells := by
 obtain ⟨xs, m, _, _, hlen, hxl, hat⟩ := DataW.trod_struct Tryz.underlying49 h
 rw [show Tryz.prog.cellsOf 49 = 38 by kernel_rfl] at hlen
 have hx : ∀ i (hi : i < 6), xs[i]? = some (xs[i]'(by rw [hxl]; exact hi)) := fun i hi => List.getElem?_eq_getElem _
 have f0 : DataW.trod enc Tryz.prog W 0 sp held m 3 ((cs.drop 0).take (Tryz.prog.cellsOf 3)) = _ := (hat 0 _ rfl).trans (hx 0 (by omega))
 rw [show Tryz.prog.cellsOf 3 = 1 by kernel_rfl] at f0
 obtain ⟨a0, e0, _, w0⟩ := DataW.trod_int Tryz.underlying3 f0
 have f1 : DataW.trod enc Tryz.prog W 0 sp held m 3 ((cs.drop 1).take (Tryz.prog.cellsOf 3)) = _ := (hat 1 _ rfl).trans (hx 1 (by omega))
 rw [show Tryz.prog.cellsOf 3 = 1 by kernel_rfl] at f1
 obtain ⟨a1, e1, _, w1⟩ := DataW.trod_int Tryz.underlying3 f1
 have f2 : DataW.trod enc Tryz.prog W 0 sp held m 3 ((cs.drop 2).take (Tryz.prog.cellsOf 3)) = _ := (hat 2 _ rfl).trans (hx 2 (by omega))
 rw [show Tryz.prog.cellsOf 3 = 1 by kernel_rfl] at f2
 obtain ⟨a2, e2, _, w2⟩ := DataW.trod_int Tryz.underlying3 f2
 have f3 : DataW.trod enc Tryz.prog W 0 sp held m 3 ((cs.drop 3).take (Tryz.prog.cellsOf 3)) = _ := (hat 3 _ rfl).trans (hx 3 (by omega))
 rw [show Tryz.prog.cellsOf 3 = 1 by kernel_rfl] at f3
 obtain ⟨a3, e3, _, w3⟩ := DataW.trod_int Tryz.underlying3 f3
 have f4 : DataW.trod enc Tryz.prog W 0 sp held m 25 ((cs.drop 4).take (Tryz.prog.cellsOf 25)) = _ := (hat 4 _ rfl).trans (hx 4 (by omega))
 rw [show Tryz.prog.cellsOf 25 = 32 by kernel_rfl] at f4
 obtain ⟨a4, w4, e4⟩ := hash_of_trod f4
 have f5 : DataW.trod enc Tryz.prog W 0 sp held m 27 ((cs.drop 36).take (Tryz.prog.cellsOf 27)) = _ := (hat 5 _ rfl).trans (hx 5 (by omega))
 rw [show Tryz.prog.cellsOf 27 = 2 by kernel_rfl] at f5
 obtain ⟨a5, c5, w5, v5, e5⟩ := pair_of_trod Tryz.underlying27 ⟨rfl, rfl⟩ ⟨rfl, rfl⟩ (by kernel_rfl) f5
 refine ⟨⟨a0, a1, a2, a3, a4, a5, c5⟩, ⟨i64In_of w0, i64In_of w1, i64In_of w2, i64In_of w3, w4, w5, v5⟩, ?_⟩
 have z : cs.drop 38 = [] := List.drop_eq_nil_of_le (by omega)
 have s0 : cs = cs.drop 0 := rfl
 rw [s0, cut_at cs 0 1 1 rfl, e0, cut_at cs 1 1 2 rfl, e1, cut_at cs 2 1 3 rfl, e2, cut_at cs 3 1 4 rfl, e3, cut_at cs 4 32 36 rfl, e4, cut_at cs 36 2 38 rfl, e5, z]
 simp [Wvt.cells]
theorem ack_of_trod {H : Type} {enc : TypeId × Value → H} {W : World} {sp : Nat → Bool} {held : Bool} {fuel : Nat} {cs : List Value} {x0 : DataW H × List MemPlace} (h : DataW.trod enc Tryz.prog W 0 sp held fuel 37 cs = some x0) :
  ∃ x : Wst, x.Ok ∧ cs = x.cells := by
 obtain ⟨xs, m, _, _, hlen, hxl, hat⟩ := DataW.trod_struct Tryz.underlying37 h
 rw [show Tryz.prog.cellsOf 37 = 38 by kernel_rfl] at hlen
 have hx : ∀ i (hi : i < 5), xs[i]? = some (xs[i]'(by rw [hxl]; exact hi)) := fun i hi => List.getElem?_eq_getElem _
 have f0 : DataW.trod enc Tryz.prog W 0 sp held m 3 ((cs.drop 0).take (Tryz.prog.cellsOf 3)) = _ := (hat 0 _ rfl).trans (hx 0 (by omega))
 rw [show Tryz.prog.cellsOf 3 = 1 by kernel_rfl] at f0
 obtain ⟨a0, e0, _, w0⟩ := DataW.trod_int Tryz.underlying3 f0
 have f1 : DataW.trod enc Tryz.prog W 0 sp held m 23 ((cs.drop 1).take (Tryz.prog.cellsOf 23)) = _ := (hat 1 _ rfl).trans (hx 1 (by omega))
 rw [show Tryz.prog.cellsOf 23 = 2 by kernel_rfl] at f1
 obtain ⟨a1, c1, w1, v1, e1⟩ := pair_of_trod Tryz.underlying23 ⟨rfl, rfl⟩ ⟨rfl, rfl⟩ (by kernel_rfl) f1
 have f2 : DataW.trod enc Tryz.prog W 0 sp held m 25 ((cs.drop 3).take (Tryz.prog.cellsOf 25)) = _ := (hat 2 _ rfl).trans (hx 2 (by omega))
 rw [show Tryz.prog.cellsOf 25 = 32 by kernel_rfl] at f2
 obtain ⟨a2, w2, e2⟩ := hash_of_trod f2
 have f3 : DataW.trod enc Tryz.prog W 0 sp held m 30 ((cs.drop 35).take (Tryz.prog.cellsOf 30)) = _ := (hat 3 _ rfl).trans (hx 3 (by omega))
 rw [show Tryz.prog.cellsOf 30 = 1 by kernel_rfl] at f3
 obtain ⟨u3, e3, _, w3⟩ := DataW.trod_int Tryz.underlying30 f3
 obtain ⟨a3, rfl, b3⟩ := u64_of w3
 have f4 : DataW.trod enc Tryz.prog W 0 sp held m 27 ((cs.drop 36).take (Tryz.prog.cellsOf 27)) = _ := (hat 4 _ rfl).trans (hx 4 (by omega))
 rw [show Tryz.prog.cellsOf 27 = 2 by kernel_rfl] at f4
 obtain ⟨a4, c4, w4, v4, e4⟩ := pair_of_trod Tryz.underlying27 ⟨rfl, rfl⟩ ⟨rfl, rfl⟩ (by kernel_rfl) f4
 refine ⟨⟨a0, a1, c1, a2, a3, a4, c4⟩, ⟨i64In_of w0, w1, v1, w2, b3, w4, v4⟩, ?_⟩
 have z : cs.drop 38 = [] := List.drop_eq_nil_of_le (by omega)
 have s0 : cs = cs.drop 0 := rfl
 rw [s0, cut_at cs 0 1 1 rfl, e0, cut_at cs 1 2 3 rfl, e1, cut_at cs 3 32 35 rfl, e2, cut_at cs 35 1 36 rfl, e3, cut_at cs 36 2 38 rfl, e4, z]
 simp [Wst.cells]
theorem entry_of_trod {H : Type} {enc : TypeId × Value → H} {W : World} {sp : Nat → Bool} {held : Bool} {fuel : Nat} {cs : List Value} {x0 : DataW H × List MemPlace} (h : DataW.trod enc Tryz.prog W 0 sp held fuel 51 cs = some x0) :
  ∃ x : Wen, x.Ok ∧ cs = x.cells := by
 obtain ⟨xs, m, _, _, hlen, hxl, hat⟩ := DataW.trod_struct Tryz.underlying51 h
 rw [show Tryz.prog.cellsOf 51 = 35 by kernel_rfl] at hlen
 have hx : ∀ i (hi : i < 3), xs[i]? = some (xs[i]'(by rw [hxl]; exact hi)) := fun i hi => List.getElem?_eq_getElem _
 have f0 : DataW.trod enc Tryz.prog W 0 sp held m 23 ((cs.drop 0).take (Tryz.prog.cellsOf 23)) = _ := (hat 0 _ rfl).trans (hx 0 (by omega))
 rw [show Tryz.prog.cellsOf 23 = 2 by kernel_rfl] at f0
 obtain ⟨a0, c0, w0, v0, e0⟩ := pair_of_trod Tryz.underlying23 ⟨rfl, rfl⟩ ⟨rfl, rfl⟩ (by kernel_rfl) f0
 have f1 : DataW.trod enc Tryz.prog W 0 sp held m 25 ((cs.drop 2).take (Tryz.prog.cellsOf 25)) = _ := (hat 1 _ rfl).trans (hx 1 (by omega))
 rw [show Tryz.prog.cellsOf 25 = 32 by kernel_rfl] at f1
 obtain ⟨a1, w1, e1⟩ := hash_of_trod f1
 have f2 : DataW.trod enc Tryz.prog W 0 sp held m 30 ((cs.drop 34).take (Tryz.prog.cellsOf 30)) = _ := (hat 2 _ rfl).trans (hx 2 (by omega))
 rw [show Tryz.prog.cellsOf 30 = 1 by kernel_rfl] at f2
 obtain ⟨u2, e2, _, w2⟩ := DataW.trod_int Tryz.underlying30 f2
 obtain ⟨a2, rfl, b2⟩ := u64_of w2
 refine ⟨⟨a0, c0, a1, a2⟩, ⟨w0, v0, w1, b2⟩, ?_⟩
 have z : cs.drop 35 = [] := List.drop_eq_nil_of_le (by omega)
 have s0 : cs = cs.drop 0 := rfl
 rw [s0, cut_at cs 0 2 2 rfl, e0, cut_at cs 2 32 34 rfl, e1, cut_at cs 34 1 35 rfl, e2, z]
 simp [Wen.cells]
theorem decided_of_trod {H : Type} {enc : TypeId × Value → H} {W : World} {sp : Nat → Bool} {held : Bool} {fuel : Nat} {cs : List Value} {x0 : DataW H × List MemPlace} (h : DataW.trod enc Tryz.prog W 0 sp held fuel 59 cs = some x0) :
  ∃ x : Wdc, x.In W ∧ cs = x.cells := by
 obtain ⟨xs, m, _, _, hlen, hxl, hat⟩ := DataW.trod_struct Tryz.underlying59 h
 rw [show Tryz.prog.cellsOf 59 = 8 by kernel_rfl] at hlen
 have hx : ∀ i (hi : i < 4), xs[i]? = some (xs[i]'(by rw [hxl]; exact hi)) := fun i hi => List.getElem?_eq_getElem _
 have f0 : DataW.trod enc Tryz.prog W 0 sp held m 3 ((cs.drop 0).take (Tryz.prog.cellsOf 3)) = _ := (hat 0 _ rfl).trans (hx 0 (by omega))
 rw [show Tryz.prog.cellsOf 3 = 1 by kernel_rfl] at f0
 obtain ⟨a0, e0, _, w0⟩ := DataW.trod_int Tryz.underlying3 f0
 have f1 : DataW.trod enc Tryz.prog W 0 sp held m 3 ((cs.drop 1).take (Tryz.prog.cellsOf 3)) = _ := (hat 1 _ rfl).trans (hx 1 (by omega))
 rw [show Tryz.prog.cellsOf 3 = 1 by kernel_rfl] at f1
 obtain ⟨a1, e1, _, w1⟩ := DataW.trod_int Tryz.underlying3 f1
 have f2 : DataW.trod enc Tryz.prog W 0 sp held m 45 ((cs.drop 2).take (Tryz.prog.cellsOf 45)) = _ := (hat 2 _ rfl).trans (hx 2 (by omega))
 rw [show Tryz.prog.cellsOf 45 = 5 by kernel_rfl] at f2
 obtain ⟨a2, w2, e2⟩ := batch_of_trod f2
 have f3 : DataW.trod enc Tryz.prog W 0 sp held m 57 ((cs.drop 7).take (Tryz.prog.cellsOf 57)) = _ := (hat 3 _ rfl).trans (hx 3 (by omega))
 rw [show Tryz.prog.cellsOf 57 = 1 by kernel_rfl] at f3
 obtain ⟨A3, n3, d3, l3, e3, w3, m3, k3⟩ := lst_of_cells (cells := Wvt.cells) (ok := fun w v => v.Ok) (k := 38) Tryz.underlying57 (by kernel_rfl) (fun fuel cs x h => vote_of_trod h) f3
 refine ⟨⟨a0, a1, a2, A3, n3, d3, l3⟩, ⟨i64In_of w0, i64In_of w1, w2, w3, Nat.le_trans m3 k3, m3⟩, ?_⟩
 have z : cs.drop 8 = [] := List.drop_eq_nil_of_le (by omega)
 have s0 : cs = cs.drop 0 := rfl
 rw [s0, cut_at cs 0 1 1 rfl, e0, cut_at cs 1 1 2 rfl, e1, cut_at cs 2 5 7 rfl, e2, cut_at cs 7 1 8 rfl, e3, z]
 simp [Wdc.cells]
theorem msg_of_trod {H : Type} {enc : TypeId × Value → H} {W : World} {sp : Nat → Bool} {held : Bool} {fuel : Nat} {cs : List Value} {x0 : DataW H × List MemPlace} (h : DataW.trod enc Tryz.prog W 0 sp held fuel 61 cs = some x0) :
  ∃ x : Wmg, x.In W ∧ cs = x.cells := by
 obtain ⟨xs, m, _, _, hlen, hxl, hat⟩ := DataW.trod_struct Tryz.underlying61 h
 rw [show Tryz.prog.cellsOf 61 = 295 by kernel_rfl] at hlen
 have hx : ∀ i (hi : i < 19), xs[i]? = some (xs[i]'(by rw [hxl]; exact hi)) := fun i hi => List.getElem?_eq_getElem _
 have f0 : DataW.trod enc Tryz.prog W 0 sp held m 3 ((cs.drop 0).take (Tryz.prog.cellsOf 3)) = _ := (hat 0 _ rfl).trans (hx 0 (by omega))
 rw [show Tryz.prog.cellsOf 3 = 1 by kernel_rfl] at f0
 obtain ⟨a0, e0, _, w0⟩ := DataW.trod_int Tryz.underlying3 f0
 have f1 : DataW.trod enc Tryz.prog W 0 sp held m 3 ((cs.drop 1).take (Tryz.prog.cellsOf 3)) = _ := (hat 1 _ rfl).trans (hx 1 (by omega))
 rw [show Tryz.prog.cellsOf 3 = 1 by kernel_rfl] at f1
 obtain ⟨a1, e1, _, w1⟩ := DataW.trod_int Tryz.underlying3 f1
 have f2 : DataW.trod enc Tryz.prog W 0 sp held m 3 ((cs.drop 2).take (Tryz.prog.cellsOf 3)) = _ := (hat 2 _ rfl).trans (hx 2 (by omega))
 rw [show Tryz.prog.cellsOf 3 = 1 by kernel_rfl] at f2
 obtain ⟨a2, e2, _, w2⟩ := DataW.trod_int Tryz.underlying3 f2
 have f3 : DataW.trod enc Tryz.prog W 0 sp held m 29 ((cs.drop 3).take (Tryz.prog.cellsOf 29)) = _ := (hat 3 _ rfl).trans (hx 3 (by omega))
 rw [show Tryz.prog.cellsOf 29 = 37 by kernel_rfl] at f3
 obtain ⟨a3, w3, e3⟩ := commit_of_trod f3
 have f4 : DataW.trod enc Tryz.prog W 0 sp held m 32 ((cs.drop 40).take (Tryz.prog.cellsOf 32)) = _ := (hat 4 _ rfl).trans (hx 4 (by omega))
 rw [show Tryz.prog.cellsOf 32 = 38 by kernel_rfl] at f4
 obtain ⟨a4, w4, e4⟩ := stamp_of_trod f4
 have f5 : DataW.trod enc Tryz.prog W 0 sp held m 35 ((cs.drop 78).take (Tryz.prog.cellsOf 35)) = _ := (hat 5 _ rfl).trans (hx 5 (by omega))
 rw [show Tryz.prog.cellsOf 35 = 38 by kernel_rfl] at f5
 obtain ⟨a5, w5, e5⟩ := cert_of_trod f5
 have f6 : DataW.trod enc Tryz.prog W 0 sp held m 37 ((cs.drop 116).take (Tryz.prog.cellsOf 37)) = _ := (hat 6 _ rfl).trans (hx 6 (by omega))
 rw [show Tryz.prog.cellsOf 37 = 38 by kernel_rfl] at f6
 obtain ⟨a6, w6, e6⟩ := ack_of_trod f6
 have f7 : DataW.trod enc Tryz.prog W 0 sp held m 3 ((cs.drop 154).take (Tryz.prog.cellsOf 3)) = _ := (hat 7 _ rfl).trans (hx 7 (by omega))
 rw [show Tryz.prog.cellsOf 3 = 1 by kernel_rfl] at f7
 obtain ⟨a7, e7, _, w7⟩ := DataW.trod_int Tryz.underlying3 f7
 have f8 : DataW.trod enc Tryz.prog W 0 sp held m 3 ((cs.drop 155).take (Tryz.prog.cellsOf 3)) = _ := (hat 8 _ rfl).trans (hx 8 (by omega))
 rw [show Tryz.prog.cellsOf 3 = 1 by kernel_rfl] at f8
 obtain ⟨a8, e8, _, w8⟩ := DataW.trod_int Tryz.underlying3 f8
 have f9 : DataW.trod enc Tryz.prog W 0 sp held m 30 ((cs.drop 156).take (Tryz.prog.cellsOf 30)) = _ := (hat 9 _ rfl).trans (hx 9 (by omega))
 rw [show Tryz.prog.cellsOf 30 = 1 by kernel_rfl] at f9
 obtain ⟨u9, e9, _, w9⟩ := DataW.trod_int Tryz.underlying30 f9
 obtain ⟨a9, rfl, b9⟩ := u64_of w9
 have f10 : DataW.trod enc Tryz.prog W 0 sp held m 40 ((cs.drop 157).take (Tryz.prog.cellsOf 40)) = _ := (hat 10 _ rfl).trans (hx 10 (by omega))
 rw [show Tryz.prog.cellsOf 40 = 6 by kernel_rfl] at f10
 obtain ⟨a10, w10, e10⟩ := promise_of_trod f10
 have f11 : DataW.trod enc Tryz.prog W 0 sp held m 47 ((cs.drop 163).take (Tryz.prog.cellsOf 47)) = _ := (hat 11 _ rfl).trans (hx 11 (by omega))
 rw [show Tryz.prog.cellsOf 47 = 11 by kernel_rfl] at f11
 obtain ⟨a11, w11, e11⟩ := proposal_of_trod f11
 have f12 : DataW.trod enc Tryz.prog W 0 sp held m 49 ((cs.drop 174).take (Tryz.prog.cellsOf 49)) = _ := (hat 12 _ rfl).trans (hx 12 (by omega))
 rw [show Tryz.prog.cellsOf 49 = 38 by kernel_rfl] at f12
 obtain ⟨a12, w12, e12⟩ := vote_of_trod f12
 have f13 : DataW.trod enc Tryz.prog W 0 sp held m 3 ((cs.drop 212).take (Tryz.prog.cellsOf 3)) = _ := (hat 13 _ rfl).trans (hx 13 (by omega))
 rw [show Tryz.prog.cellsOf 3 = 1 by kernel_rfl] at f13
 obtain ⟨a13, e13, _, w13⟩ := DataW.trod_int Tryz.underlying3 f13
 have f14 : DataW.trod enc Tryz.prog W 0 sp held m 51 ((cs.drop 213).take (Tryz.prog.cellsOf 51)) = _ := (hat 14 _ rfl).trans (hx 14 (by omega))
 rw [show Tryz.prog.cellsOf 51 = 35 by kernel_rfl] at f14
 obtain ⟨a14, w14, e14⟩ := entry_of_trod f14
 have f15 : DataW.trod enc Tryz.prog W 0 sp held m 54 ((cs.drop 248).take (Tryz.prog.cellsOf 54)) = _ := (hat 15 _ rfl).trans (hx 15 (by omega))
 rw [show Tryz.prog.cellsOf 54 = 34 by kernel_rfl] at f15
 obtain ⟨a15, w15, e15⟩ := opening_of_trod f15
 have f16 : DataW.trod enc Tryz.prog W 0 sp held m 56 ((cs.drop 282).take (Tryz.prog.cellsOf 56)) = _ := (hat 16 _ rfl).trans (hx 16 (by omega))
 rw [show Tryz.prog.cellsOf 56 = 4 by kernel_rfl] at f16
 obtain ⟨a16, w16, e16⟩ := deny_of_trod f16
 have f17 : DataW.trod enc Tryz.prog W 0 sp held m 9 ((cs.drop 286).take (Tryz.prog.cellsOf 9)) = _ := (hat 17 _ rfl).trans (hx 17 (by omega))
 rw [show Tryz.prog.cellsOf 9 = 1 by kernel_rfl] at f17
 obtain ⟨s17, e17, _, w17⟩ := DataW.trod_string Tryz.underlying9 f17
 rw [show (Value.string s17) = Value.string ⟨s17.data.toList.toArray⟩ by simp] at e17
 have f18 : DataW.trod enc Tryz.prog W 0 sp held m 59 ((cs.drop 287).take (Tryz.prog.cellsOf 59)) = _ := (hat 18 _ rfl).trans (hx 18 (by omega))
 rw [show Tryz.prog.cellsOf 59 = 8 by kernel_rfl] at f18
 obtain ⟨a18, w18, e18⟩ := decided_of_trod f18
 refine ⟨⟨a0, a1, a2, a3, a4, a5, a6, a7, a8, a9, a10, a11, a12, a13, a14, a15, a16, s17.data.toList, a18⟩, ⟨i64In_of w0, i64In_of w1, i64In_of w2, w3, w4, w5, w6, i64In_of w7, i64In_of w8, b9, w10, w11, w12, i64In_of w13, w14, w15, w16, by rw [Array.length_toList]; exact w17, w18⟩, ?_⟩
 have z : cs.drop 295 = [] := List.drop_eq_nil_of_le (by omega)
 have s0 : cs = cs.drop 0 := rfl
 rw [s0, cut_at cs 0 1 1 rfl, e0, cut_at cs 1 1 2 rfl, e1, cut_at cs 2 1 3 rfl, e2, cut_at cs 3 37 40 rfl, e3, cut_at cs 40 38 78 rfl, e4, cut_at cs 78 38 116 rfl, e5, cut_at cs 116 38 154 rfl, e6, cut_at cs 154 1 155 rfl, e7, cut_at cs 155 1 156 rfl, e8, cut_at cs 156 1 157 rfl, e9, cut_at cs 157 6 163 rfl, e10, cut_at cs 163 11 174 rfl, e11, cut_at cs 174 38 212 rfl, e12, cut_at cs 212 1 213 rfl, e13, cut_at cs 213 35 248 rfl, e14, cut_at cs 248 34 282 rfl, e15, cut_at cs 282 4 286 rfl, e16, cut_at cs 286 1 287 rfl, e17, cut_at cs 287 8 295 rfl, e18, z]
 simp [Wmg.cells]
theorem msg_open {H : Type} {enc : TypeId × Value → H} {W : World} {r : Reach} {base b0 : Nat} {v : Value} {d : DataW H} {p : List MemPlace} {sp : Nat → Bool} {held : Bool} (hv : Value.okWide Tryz.prog W r base 61 v) (h : DataW.Trod enc Tryz.prog W b0 sp held 61 v d p) (hb : b0 = 0) :
  ∃ x : Wmg, x.In W ∧ v = x.val := by
 subst hb
 unfold Value.okWide at hv
 rw [Tryz.underlying61] at hv
 obtain ⟨cs, rfl, -⟩ := hv
 obtain ⟨fuel, hf⟩ := h
 obtain ⟨x, hx, e⟩ := msg_of_trod (show DataW.trod enc Tryz.prog W 0 sp held fuel 61 cs.toList = some (d, p) from hf)
 exact ⟨x, hx, by show Value.agg cs = Value.agg _; rw [← e, Array.toArray_toList]⟩
end Go.Proofs.YtpcnedpheplofaaGreat

namespace Go.Proofs.YtpcnedpheplofaaGreat
open Go.RowKit
set_option maxRecDepth 100000
theorem row_msg : RowTy Tryz.prog 61 295 := ⟨by kernel_rfl, by kernel_rfl⟩
theorem Wmg.len {w : World} {S : List Nat} {x : Wmg} (hx : x.Ok w S) : x.cells.length = 295 := by
 simp only [Wmg.cells, List.length_append, List.length_cons, List.length_nil, Wcm.len hx.cm.h, Wst.len hx.st.h, Wce.len hx.ce.k.h, Wst.len hx.ak.h, Wpr.len, Wpo.len, Wvt.len hx.vt.h, Wen.len hx.en.h, Wop.len hx.op.h, Wdn.len, Wdc.len]
theorem Wmg.bytes_len {w : World} {S : List Nat} {x : Wmg} (hx : x.Ok w S) : x.bytes.length ≤ 15030 := by
 have b0 := encI_len x.q hx.q.2
 have b1 := encI_len x.f hx.f.2
 have b2 := encI_len x.t hx.t.2
 have b3 := Wmg.body_len hx
 simp only [Wmg.bytes, List.length_append]
 omega
def PackPost (w : World) (x : Wmg) (e : Ending) (w' : World) : Prop :=
 if 1 ≤ x.q ∧ x.q ≤ 14 then ∃ A c, e = .returned (.tuple #[.slice A x.bytes.length c, .bool true]) ∧ NewB w w' A x.bytes.length c x.bytes
 else e = .returned (.tuple #[.slice none 0 0, .bool false]) ∧ Fr [] w w'
set_option maxHeartbeats 2000000 in
theorem mpack_any (x : Wmg) (w : World) (hx : x.Ok w []) (C : List Value) (hC : x.cells = C) :
  Calls Tryz.prog 7 #[.agg C.toArray] w (PackPost w x) := by
 obtain ⟨wa, hwa⟩ : ∃ wa, wa = w.alloc (Obj.cells C.toArray 61) := ⟨_, rfl⟩
 have hf0 : Fr [] w wa := by rw [hwa]; exact (Fr.refl [] w).alloc _
 have hb0 : Blk wa w.heap.size 61 x.cells.toArray := by rw [hwa, hC]; exact Blk.new _ _ _
 have hat : x.At wa w.heap.size := Wmg.at_of hb0.range hx
 have HC0 : Hid (wa.cell? ⟨w.heap.size, 0 + 0, none⟩ = some (.int .i64 x.q)) := Lib.hid (hat.q 0 _ rfl)
 have HC1 : Hid (wa.cell? ⟨w.heap.size, 0 + 1, none⟩ = some (.int .i64 x.f)) := Lib.hid (hat.f 0 _ rfl)
 have HC2 : Hid (wa.cell? ⟨w.heap.size, 0 + 2, none⟩ = some (.int .i64 x.t)) := Lib.hid (hat.t 0 _ rfl)
 have HRG : Hid (wa.rangeAt w.heap.size 0 C) := Lib.hid (hC ▸ hb0.range)
 have HLN : Hid (C.length = 295) := Lib.hid (hC ▸ Wmg.len hx)
 have HXA : Hid (x.Ok wa []) := Lib.hid (hx.keep hf0 (by simp))
 have HBL := Lib.hid (Wmg.bytes_len hx)
 have HBD := Lib.hid (Wmg.body_len hx)
 have HRC := Lib.hid hC
 have HF0 := Lib.hid hf0
 have HWA := Lib.hid hwa
 have HX := Lib.hid hx
 clear hwa hf0 hb0 hat hx hC
 go_enter Tryz.func7, Tryz.ntmps7
 go_wp2
 rw [← HWA.out]
 refine wp_region_held_drew (S := Fr [] wa) (by kernel_rfl) (Fr.drew (Fr.refl _ wa)) (fun hHeld => ?_)
 refine run_at (i := 1) (v := ?_) rfl (by kernel_rfl) (by rfl) (fun _ _ _ h => h) hHeld (fun w1 hw1 => ?_) ?_
 rotate_left 1
 · skip
   go_simp
   try first | with_reducible rfl | apply And.intro <;> rfl
 simp only [xPa, xPb, xPc, xPd, xPe]
 refine run_at (i := 2) (v := ?_) rfl (by kernel_rfl) (by rfl) (fun _ _ _ h => h) hHeld (fun w1 hw1 => ?_) ?_
 rotate_left 1
 · skip
   have hcw0 := hw1.cell (HC0.out) (by simp)
   go_simp
   try first | with_reducible rfl | apply And.intro <;> rfl
 simp only [xPa, xPb, xPc, xPd, xPe]
 refine run_at (i := 4) (v := ?_) rfl (by kernel_rfl) (by rfl) (fun _ _ _ h => h) hHeld (fun w1 hw1 => ?_) ?_
 rotate_left 1
 · skip
   go_simp
   try first | with_reducible rfl | apply And.intro <;> rfl
 simp only [xPa, xPb, xPc, xPd, xPe]
 refine run_at (i := 5) (v := ?_) rfl (by kernel_rfl) (by rfl) (fun _ _ _ h => h) hHeld (fun w1 hw1 => ?_) ?_
 rotate_left 1
 · skip
   have hcw0 := hw1.cell (HC1.out) (by simp)
   go_simp
   try first | with_reducible rfl | apply And.intro <;> rfl
 simp only [xPa, xPb, xPc, xPd, xPe]
 refine run_at (i := 7) (v := ?_) rfl (by kernel_rfl) (by rfl) (fun _ _ _ h => h) hHeld (fun w1 hw1 => ?_) ?_
 rotate_left 1
 · skip
   go_simp
   try first | with_reducible rfl | apply And.intro <;> rfl
 simp only [xPa, xPb, xPc, xPd, xPe]
 refine run_at (i := 8) (v := ?_) rfl (by kernel_rfl) (by rfl) (fun _ _ _ h => h) hHeld (fun w1 hw1 => ?_) ?_
 rotate_left 1
 · skip
   have hcw0 := hw1.cell (HC2.out) (by simp)
   go_simp
   try first | with_reducible rfl | apply And.intro <;> rfl
 simp only [xPa, xPb, xPc, xPd, xPe]
 refine call_at (i := 0) (f := ?_) (args := ?_) rfl (by kernel_rfl) (by rfl) ?_ ?_
 rotate_left 2
 · go_simp
   try first | with_reducible rfl | apply And.intro <;> rfl
 refine (newWriter_any _).mono ?_
 rintro e w1 ⟨rfl, hw1, hf1⟩
 obtain ⟨g, hg⟩ : ∃ g, g = wa.drew.heap.size := ⟨_, rfl⟩
 have HW1 : Hid (NewWr wa w1 g []) := Lib.hid ⟨[g], hg ▸ hw1, (Fr.drew (Fr.refl [] wa)).trans hf1 (by simp), fun x hx => by simp at hx; subst hx; rw [hg]; exact Nat.le_refl _⟩
 rw [← hg]
 refine ⟨_, rfl, HW1.out.fr, fun hHeld => ?_⟩
 clear hw1 hf1 hg
 simp only [xPa, xPb, xPc, xPd, xPe]
 refine call_at (i := 3) (f := ?_) (args := ?_) rfl (by kernel_rfl) (by rfl) ?_ ?_
 rotate_left 2
 · go_simp
   try first | with_reducible rfl | apply And.intro <;> rfl
 refine (int_head wa w1 g _ HW1.out x.q HX.out.q.1 HX.out.q.2 (by decide)).mono ?_
 rintro e w2 ⟨rfl, hw2⟩
 have HW2 := Lib.hid hw2
 refine ⟨_, rfl, hw2.fr, fun hHeld => ?_⟩
 clear hw2 HW1
 simp only [xPa, xPb, xPc, xPd, xPe]
 refine call_at (i := 6) (f := ?_) (args := ?_) rfl (by kernel_rfl) (by rfl) ?_ ?_
 rotate_left 2
 · go_simp
   try first | with_reducible rfl | apply And.intro <;> rfl
 refine (int_head wa w2 g _ HW2.out x.f HX.out.f.1 HX.out.f.2 (by have b0 := encI_len x.q HX.out.q.2; simp only [List.nil_append]; omega)).mono ?_
 rintro e w3 ⟨rfl, hw3⟩
 have HW3 := Lib.hid hw3
 refine ⟨_, rfl, hw3.fr, fun hHeld => ?_⟩
 clear hw3 HW2
 simp only [xPa, xPb, xPc, xPd, xPe]
 refine call_at (i := 9) (f := ?_) (args := ?_) rfl (by kernel_rfl) (by rfl) ?_ ?_
 rotate_left 2
 · go_simp
   try first | with_reducible rfl | apply And.intro <;> rfl
 refine (int_head wa w3 g _ HW3.out x.t HX.out.t.1 HX.out.t.2 (by have b0 := encI_len x.q HX.out.q.2; have b1 := encI_len x.f HX.out.f.2; simp only [List.nil_append, List.length_append]; omega)).mono ?_
 rintro e w4 ⟨rfl, hw4⟩
 have HW4 := Lib.hid hw4
 refine ⟨_, rfl, hw4.fr, fun hHeld => ?_⟩
 clear hw4 HW3
 simp only [xPa, xPb, xPc, xPd, xPe]
 refine run_at (i := 10) (v := ?_) rfl (by kernel_rfl) (by rfl) (fun _ _ _ h => h) hHeld (fun w1 hw1 => ?_) ?_
 rotate_left 1
 · skip
   go_simp
   try first | with_reducible rfl | apply And.intro <;> rfl
 simp only [xPa, xPb, xPc, xPd, xPe]
 refine wpAnyH_done (by kernel_rfl) ?_ _
 have HR4 : Hid (w4.rangeAt w.heap.size 0 C) := Lib.hid (HW4.out.fr.range HRG.out (by simp))
 go_wp2_with (refine wpList_load_mid rfl 61 _ rfl w.heap.size 0 rfl C _ HR4.out Tryz.underlying61 rfl (row_msg.of HLN.out).2 ?_)
 refine (HW4.out.calls fun S1 k1 f1 s1 => mput_any x w4 S1 g _ k1 (by have b0 := encI_len x.q HX.out.q.2; have b1 := encI_len x.f HX.out.f.2; have b2 := encI_len x.t HX.out.t.2; simp only [List.nil_append, List.length_append]; omega) (HXA.out.keep f1 (fun k hk hl => absurd (s1 k hk) (by omega))) C HRC.out).mono ?_
 rintro e w5 ⟨rfl, hw5⟩
 have HW5 : Hid (NewWr wa w5 g x.bytes) := Lib.hid (by rw [Wmg.bytes]; simpa using hw5)
 clear hw5 HW4
 by_cases hm : 1 ≤ x.q ∧ x.q ≤ 14
 · rw [decide_eq_true hm]
   have HM := Lib.hid hm
   clear hm
   go_wp2_with fail
   refine (bytes_head wa w5 g _ HW5.out (by have := HBL.out; omega)).mono ?_
   rintro e w6 ⟨A6, c6, rfl, hn6⟩
   have HN6 := Lib.hid hn6
   clear hn6 HW5
   have hbig : ¬ (65536 < (x.bytes.length : Int)) := by have := HBL.out; omega
   have hbig2 : ¬ (65536 < x.bytes.length) := by have := HBL.out; omega
   go_wp2_with fail
   go_ret2
   unfold PackPost
   rw [if_pos HM.out]
   exact ⟨A6, c6, rfl, HN6.out.1, HF0.out.and HN6.out.2.1 (by simp), fun k hk => Nat.le_trans HF0.out.size (HN6.out.2.2 k hk)⟩
 · rw [decide_eq_false hm]
   have HM := Lib.hid hm
   clear hm
   go_wp2_with fail
   go_ret2
   unfold PackPost
   rw [if_neg HM.out]
   exact ⟨rfl, HF0.out.and HW5.out.fr (by simp)⟩
end Go.Proofs.YtpcnedpheplofaaGreat

namespace Go.Proofs.YtpcnedpheplofaaGreat
open Go.RowKit
set_option maxRecDepth 100000
theorem Blk.mid {g : Nat} {t : TypeId} : ∀ (V M P Z : List Value) (w : World), V.length = M.length → Blk w g t (P ++ (M ++ Z)).toArray → Blk (w.setCells g P.length V) g t (P ++ (V ++ Z)).toArray
 | [], M, P, Z, w, h, hb => by
   have : M = [] := List.eq_nil_of_length_eq_zero (by simpa using h.symm)
   subst this
   exact hb
 | v :: V, [], P, Z, w, h, hb => by simp at h
 | v :: V, m :: M, P, Z, w, h, hb => by
   have h1 := hb.set P.length v
   rw [List.setIfInBounds_toArray, List.set_append_right _ _ (Nat.le_refl _), Nat.sub_self] at h1
   have h2 := Blk.mid V M (P ++ [v]) Z (w.setCell ⟨g, P.length, none⟩ v) (by simpa using h) (by simpa using h1)
   have e : (P ++ [v]).length = P.length + 1 := by simp
   rw [e] at h2
   simpa [World.setCells] using h2
theorem Blk.mid_at {g : Nat} {t : TypeId} {w : World} (V M P Z : List Value) (o : Nat) (ho : P.length = o) (h : V.length = M.length) (cs cs' : List Value) (hc : cs = P ++ (M ++ Z)) (hc' : cs' = P ++ (V ++ Z)) (hb : Blk w g t cs.toArray) : Blk (w.setCells g o V) g t cs'.toArray := by
 subst ho
 subst hc
 subst hc'
 exact Blk.mid V M P Z w h hb
theorem Fr.setCells {S : List Nat} {a : World} {g : Nat} (hg : g < a.heap.size → g ∈ S) : ∀ (V : List Value) (o : Nat) (w : World), Fr S a w → Fr S a (w.setCells g o V)
 | [], _, _, h => h
 | v :: V, o, w, h => Fr.setCells hg V (o + 1) _ (h.setCell ⟨g, o, none⟩ hg v)
def upI (v : Int) : Int := v % 1099511627776
theorem row_sg2 : RowTy Tryz.prog 27 2 := ⟨by kernel_rfl, by kernel_rfl⟩
end Go.Proofs.YtpcnedpheplofaaGreat

namespace Go.Proofs.YtpcnedpheplofaaGreat
open Go.RowKit
set_option maxRecDepth 100000
def nst (x : Wst) : Wst := ⟨upI x.r, upI x.c, upI x.s, x.h, x.t, upI x.b, upI x.m⟩
def ncm (x : Wcm) : Wcm := ⟨upI x.c, upI x.s, x.h, upI x.n, upI x.b, upI x.m⟩
theorem row_stm : RowTy Tryz.prog 32 38 := ⟨by kernel_rfl, by kernel_rfl⟩
theorem wp_store_at {P : Program} {op : Oper} {a : Act} {w : World} {K : Act → World → Prop} {Q : Exit → Act → World → Prop} (ty : TypeId) (x y : Operand) (ho : op.op = .store ty x y)
  (g i : Nat) (v : Value) (hx : a.eval x = .pointer (some ⟨g, i, none⟩)) (hy : a.eval y = v) (h1 : v.oneCell' = true) (t : TypeId) (cs : Array Value) (hb : Blk w g t cs) (hi : i < cs.size) (hsz : (P.info? ty).map (·.size) = some 1)
  (h : K (a.put op.dst undef) (w.setCells g i [v])) : op.wp P a w K Q := by
 subst hy
 have hc := hb.cell i
 rw [Array.getElem?_eq_getElem hi] at hc
 have := run_storeCells_cells (P := P) g i [a.eval y] 0 w (fun j hj => by simp at hj; subst hj; simpa using (by rw [hc]; rfl : (w.cell? ⟨g, i, none⟩).isSome = true)) (fun j hj => by simp at hj; subst hj; simpa using hb.frozen i) (fun u hu => by simp at hu; subst hu; exact h1)
 have hcl : (a.eval y).cells = #[a.eval y] := by cases hv : a.eval y <;> first | rfl | (rw [hv] at h1; cases h1)
 have hrun : (storeVar ty ⟨g, i, none⟩ (a.eval y)).run P w = .ok () (w.setCells g i [a.eval y]) := by
  cases hq : P.info? ty with
  | none => simp [hq] at hsz
  | some j =>
    have hs : j.size = 1 := by simpa [hq] using hsz
    simp only [Nat.add_zero] at this
    simp [storeVar, sizeOf, typeInfo, hq, hcl, hs, this]
 unfold Oper.wp execOp
 simp only [ho, hx, Instr.storeAt, Instr.sureAddr, Sem.run_bind, Sem.run_pure, Result.andThen_ok, hrun]
 exact h
end Go.Proofs.YtpcnedpheplofaaGreat

namespace Go.Proofs.YtpcnedpheplofaaGreat
open Go.RowKit
set_option maxRecDepth 100000
structure Wmg.Len (x : Wmg) : Prop where
 cm : x.cm.h.length = 32
 st : x.st.h.length = 32
 ce : x.ce.k.h.length = 32
 ak : x.ak.h.length = 32
 vt : x.vt.h.length = 32
 en : x.en.h.length = 32
 op : x.op.h.length = 32
def mh0 : List UInt8 := List.replicate 32 0
def mb0 : Wba := ⟨0, 0, none, 0, 0, [], none, 0, 0, [], none, 0, 0, []⟩
def mz (q f t : Int) : Wmg := ⟨q, f, t, ⟨0, 0, mh0, 0, 0, 0⟩, ⟨0, 0, 0, mh0, 0, 0, 0⟩, ⟨⟨0, 0, mh0, 0, 0, 0⟩, none, 0, 0, []⟩, ⟨0, 0, 0, mh0, 0, 0, 0⟩, 0, 0, 0, ⟨0, 0, 0, none, 0, 0, [], 0, 0⟩, ⟨0, 0, 0, 0, mb0, 0, 0⟩, ⟨0, 0, 0, 0, mh0, 0, 0⟩, 0, ⟨0, 0, mh0, 0⟩, ⟨0, none, 0, 0, [], mh0⟩, ⟨0, 0, 0, 0⟩, [], ⟨0, 0, mb0, none, 0, 0, []⟩⟩
theorem mz_len (q f t : Int) : (mz q f t).Len := ⟨rfl, rfl, rfl, rfl, rfl, rfl, rfl⟩
theorem Wmg.lenz {x : Wmg} (hx : x.Len) : x.cells.length = 295 := by
 simp only [Wmg.cells, List.length_append, List.length_cons, List.length_nil, Wcm.len hx.cm, Wst.len hx.st, Wce.len hx.ce, Wst.len hx.ak, Wpr.len, Wpo.len, Wvt.len hx.vt, Wen.len hx.en, Wop.len hx.op, Wdn.len, Wdc.len]
set_option maxHeartbeats 2000000 in
theorem mget_none (x : Wmg) (hq : ¬ (1 ≤ x.q ∧ x.q ≤ 14)) (w : World) (g gm : Nat) (hb : Blk w gm 61 x.cells.toArray) :
  Calls Tryz.prog 57 #[.pointer (some ⟨g, 0, none⟩), .pointer (some ⟨gm, 0, none⟩)] w fun e w' => e = .returned (.bool false) ∧ w = w' := by
 have hq0 : w.cell? ⟨gm, 0, none⟩ = some (.int .i64 x.q) := hb.range (cs := x.cells) 0 (.int .i64 x.q) rfl
 have HQ := Lib.hid hq
 clear hb hq
 go_enter Tryz.func57, Tryz.ntmps57
 have n1 : (x.q == (1 : Int)) = false := by have := HQ.out; simp; omega
 have n2 : (x.q == (2 : Int)) = false := by have := HQ.out; simp; omega
 have n3 : (x.q == (3 : Int)) = false := by have := HQ.out; simp; omega
 have n4 : (x.q == (4 : Int)) = false := by have := HQ.out; simp; omega
 have n5 : (x.q == (5 : Int)) = false := by have := HQ.out; simp; omega
 have n6 : (x.q == (6 : Int)) = false := by have := HQ.out; simp; omega
 have n7 : (x.q == (7 : Int)) = false := by have := HQ.out; simp; omega
 have n8 : (x.q == (8 : Int)) = false := by have := HQ.out; simp; omega
 have n9 : (x.q == (9 : Int)) = false := by have := HQ.out; simp; omega
 have n10 : (x.q == (10 : Int)) = false := by have := HQ.out; simp; omega
 have n11 : (x.q == (11 : Int)) = false := by have := HQ.out; simp; omega
 have n12 : (x.q == (12 : Int)) = false := by have := HQ.out; simp; omega
 have n13 : (x.q == (13 : Int)) = false := by have := HQ.out; simp; omega
 have n14 : (x.q == (14 : Int)) = false := by have := HQ.out; simp; omega
 go_wp2_with fail
 go_ret
 exact ⟨rfl, rfl⟩
theorem results_row_tmp {P : Program} {fn : Func} {p u : Tmp} {ty : TypeId} (h : fn.results = #[.cell p ty, .tmp u]) (tmps : Array Value) (w : World) (g : Nat) (t : TypeId) (cs : Array Value) (fr : Nat × Nat) (d : TypeDesc) (b : Value)
  (hp : tmps.getD p undef = .pointer (some ⟨g, 0, none⟩)) (hb : tmps.getD u undef = b) (hg : w.heap[g]? = some (.cells cs t fr))
  (hu : P.underlying ty = some d) (hd : (match d with | .struct _ | .array _ _ => true | _ => false) = true) (hi : (P.info? ty).map (·.size) = some cs.size) :
  (results fn tmps).run P w = .ok (.tuple #[.agg cs, b]) w := by
 rw [results_cell_tmp h, hp, hb]
 simp [asAddr, Result.andThen, run_loadVar_row w g t ty cs fr d hg hu hd hi]
theorem built_mg0 : Tryz.prog.built 61 [] = some (mz 0 0 0).cells.toArray := by kernel_rfl
theorem built_mg3 (q f t : Int) : Tryz.prog.built 61 [(0, .int .i64 q), (1, .int .i64 f), (2, .int .i64 t)] = some (mz q f t).cells.toArray := by kernel_rfl
theorem msg_size {x : Wmg} (hx : x.Len) : (Tryz.prog.info? 61).map (·.size) = some x.cells.toArray.size := by rw [List.size_toArray, Wmg.lenz hx]; kernel_rfl
theorem Wmg.one (x : Wmg) : ∀ v ∈ x.cells, v.oneCell' = true := by
 intro v hv
 simp only [Wmg.cells, List.mem_append, List.mem_singleton] at hv
 rcases hv with rfl | rfl | rfl | hv | hv | hv | hv | rfl | rfl | rfl | hv | hv | hv | rfl | hv | hv | hv | rfl | hv
 · rfl
 · rfl
 · rfl
 · exact Wcm.one _ v hv
 · exact Wst.one _ v hv
 · exact Wce.one _ v hv
 · exact Wst.one _ v hv
 · rfl
 · rfl
 · rfl
 · exact Wpr.one _ v hv
 · exact Wpo.one _ v hv
 · exact Wvt.one _ v hv
 · rfl
 · exact Wen.one _ v hv
 · exact Wop.one _ v hv
 · exact Wdn.one _ v hv
 · rfl
 · exact Wdc.one _ v hv
set_option maxHeartbeats 4000000 in
theorem munpack_bad (A : Option Addr) (n c : Nat) (l : List UInt8) (w : World) (hy : By w A n l) (hn : n ≤ 65536) (hq : ¬ (1 ≤ (pI (l, false)).1 ∧ (pI (l, false)).1 ≤ 14)) :
  Calls Tryz.prog 17 #[.slice A n c] w fun e w' => e = .returned (.tuple #[.agg (mz 0 0 0).cells.toArray, .bool false]) ∧ Fr [] w w' := by
 obtain ⟨Z, hZ⟩ : ∃ Z, Z = (mz 0 0 0).cells.toArray := ⟨_, rfl⟩
 obtain ⟨wa, hwa⟩ : ∃ wa, wa = w.alloc (Obj.cells Z 61) := ⟨_, rfl⟩
 have hf0 : Fr [] w wa := by rw [hwa]; exact (Fr.refl [] w).alloc _
 have HBZ : Hid (Blk wa w.heap.size 61 Z) := Lib.hid (by rw [hwa]; exact Blk.new _ _ _)
 have HWS : Hid (wa.heap.size = w.heap.size + 1) := Lib.hid (by rw [hwa]; simp)
 have HY := Lib.hid (hy.keep hf0 (by simp))
 have HN := Lib.hid hn
 have HLN := Lib.hid hy.1
 have HF0 := Lib.hid hf0
 have HWA := Lib.hid hwa
 have HZ := Lib.hid hZ
 have HZT : Hid ((Tryz.prog.info? 61).map (·.size) = some Z.size) := Lib.hid (by rw [hZ]; exact msg_size (mz_len 0 0 0))
 have HZO : Hid (Z.all (·.oneCell') = true) := Lib.hid (by rw [hZ]; exact all_oneCell_toArray (Wmg.one _))
 have HB0 : Hid (Tryz.prog.built 61 [] = some Z) := Lib.hid (by rw [hZ]; exact built_mg0)
 have hbig : ¬ (65536 < (n : Int)) := by omega
 have hbig2 : ¬ (65536 < n) := by omega
 have HQQ := Lib.hid hq
 clear hwa hf0 hy hn hZ hq
 go_enter Tryz.func17, Tryz.ntmps17
 go_upto_region 1 with (fail)
 change Code.wp _ _ _ _ (w.alloc (Obj.cells (mz 0 0 0).cells.toArray 61))
 rw [← HZ.out, ← HWA.out]
 go_wp2_with fail
 refine (newReader_any A n c l wa HY.out (by have := HN.out; omega)).mono ?_
 rintro e_ w1 ⟨g, F, rfl, h1, h2, h3, h4⟩
 have HR1 : Hid (Rs w1 F g (l, false)) := Lib.hid ⟨h1, by have := HLN.out; have := HN.out; simp only; omega, fun k hk => (h4 k hk).2⟩
 have HG : Hid (w.heap.size < g ∧ g < w1.heap.size) := Lib.hid ⟨by have := HWS.out; omega, h1.lt⟩
 have HNF : Hid (∀ k ∈ F, w.heap.size < k ∧ k < w1.heap.size) := Lib.hid (fun k hk => by have h := h4 k hk; have := HWS.out; omega)
 have HF1 : Hid (Fr [] w w1) := Lib.hid (HF0.out.and h2 (by simp))
 have HB1 := Lib.hid (HBZ.out.keep h2 (by simp))
 clear h1 h2 h3 h4 hbig hbig2
 go_wp2_with fail
 refine (getInt_any HR1.out).mono ?_
 rintro e_ w2 ⟨rfl, h1, h2⟩
 have HR2 := Lib.hid h1
 have HF2 : Hid (Fr [g] w1 w2) := Lib.hid h2
 clear h1 h2
 go_wp2_with fail
 refine (getInt_any HR2.out).mono ?_
 rintro e_ w3 ⟨rfl, h1, h2⟩
 have HR3 := Lib.hid h1
 have HF3 : Hid (Fr [g] w1 w3) := Lib.hid (HF2.out.trans h2 (fun x hx _ => hx))
 clear h1 h2
 go_wp2_with fail
 refine (getInt_any HR3.out).mono ?_
 rintro e_ w4 ⟨rfl, h1, h2⟩
 have HR4 := Lib.hid h1
 have HF4 : Hid (Fr [g] w1 w4) := Lib.hid (HF3.out.trans h2 (fun x hx _ => hx))
 clear h1 h2
 have HB4 := Lib.hid (HB1.out.keep HF4.out (by have := HG.out; simp; omega))
 have HS4 : Hid (w1.heap.size ≤ w4.heap.size) := Lib.hid HF4.out.size
 have HBN : Hid (Blk (w4.alloc (Obj.cells (mz 0 0 0).cells.toArray 61)) w4.heap.size 61 Z) := Lib.hid (by rw [HZ.out]; exact Blk.new _ _ _)
 obtain ⟨V, hV⟩ : ∃ V, V = (mz (pI (l, false)).1 (pI (pI (l, false)).2).1 (pI (pI (pI (l, false)).2).2).1).cells.toArray := ⟨_, rfl⟩
 have HBU : Hid (Tryz.prog.built 61 [(0, .int .i64 (pI (l, false)).1), (1, .int .i64 (pI (pI (l, false)).2).1), (2, .int .i64 (pI (pI (pI (l, false)).2).2).1)] = some V) := Lib.hid (by rw [hV]; exact built_mg3 _ _ _)
 have HVT : Hid ((Tryz.prog.info? 61).map (·.size) = some V.size) := Lib.hid (by rw [hV]; exact msg_size (mz_len _ _ _))
 have HVO : Hid (V.all (·.oneCell') = true) := Lib.hid (by rw [hV]; exact all_oneCell_toArray (Wmg.one _))
 have HVZ : Hid (Z.size = V.size) := Lib.hid (by rw [hV, HZ.out, List.size_toArray, List.size_toArray, Wmg.lenz (mz_len _ _ _), Wmg.lenz (mz_len _ _ _)])
 have HV := Lib.hid hV
 clear hV
 go_wp2_with (first
  | (refine wpList_builtg rfl 61 _ rfl _ _ HBU.out rfl ?_)
  | (refine wpList_store_blk rfl 61 _ _ rfl w4.heap.size V rfl rfl 61 Z HBN.out HVT.out HVZ.out HVO.out ?_
     intro w5 hb5 hf5
     have HB5 := Lib.hid hb5
     have HF5 := Lib.hid ((((Fr.refl [w4.heap.size] w4).alloc _)).trans hf5 (fun x hx _ => hx))
     clear hb5 hf5))
 have HR5 := Lib.hid (HR4.out.fr HF5.out (by have := HG.out; have := HS4.out; simp; omega) (fun k hk hm => by have := HNF.out k hk; have := HS4.out; simp at hm; omega))
 have HBZ5 := Lib.hid (HB4.out.keep HF5.out (by have := HG.out; have := HS4.out; simp; omega))
 refine (mget_none (mz (pI (l, false)).1 (pI (pI (l, false)).2).1 (pI (pI (pI (l, false)).2).2).1) HQQ.out w5 g w4.heap.size (by rw [← HV.out]; exact HB5.out)).mono ?_
 rintro e_ w6 ⟨rfl, rfl⟩
 have HFF6 : Hid (Fr [] w w5) := Lib.hid (HF1.out.trans ((HF4.out.mono (T := [g, w4.heap.size]) (fun q hq _ => by simp at hq; simp [hq])).trans HF5.out (fun q hq _ => by simp at hq; simp [hq])) (fun q hq hl => by have := HG.out; have := HS4.out; have := HF1.out.size; simp at hq; omega))
 go_wp2_with (first
  | (refine wpList_builtg rfl 61 _ rfl _ _ HB0.out rfl ?_)
  | (refine wpList_store_blk rfl 61 _ _ rfl w.heap.size Z rfl rfl 61 Z HBZ5.out HZT.out rfl HZO.out ?_
     intro w9 hb9 hf9
     have HB9 := Lib.hid hb9
     have HF9 := Lib.hid hf9
     clear hb9 hf9))
 refine bodyPost_ret (v := .tuple #[.agg Z, .bool false]) (results_row_tmp Tryz.results17 _ _ w.heap.size 61 Z _ _ (.bool false) rfl rfl HB9.out Tryz.underlying61 rfl HZT.out) rfl ⟨by rw [HZ.out], ?_⟩
 exact HFF6.out.trans HF9.out (fun q hq hl => by simp at hq; omega)
theorem munpack_nil (w : World) : Calls Tryz.prog 17 #[.slice none 0 0] w fun e w' => e = .returned (.tuple #[.agg (mz 0 0 0).cells.toArray, .bool false]) ∧ Fr [] w w' := munpack_bad none 0 0 [] w (By.nil w none) (by omega) (by decide)
end Go.Proofs.YtpcnedpheplofaaGreat

namespace Go.Proofs.YtpcnedpheplofaaGreat
open Go.RowKit
set_option maxRecDepth 100000
theorem Wpo.Li.keep {w W : World} {S S' : List Nat} {x : Wpo} (h : x.Li w S) (hf : Fr S w W) (hs : ∀ k ∈ S', k < w.heap.size → k ∈ S) : x.Li W S' :=
 ⟨h.e, h.r, h.v, h.p, h.k.keep hf hs, h.b, h.m⟩
theorem Wdc.Li.keep {w W : World} {S S' : List Nat} {x : Wdc} (h : x.Li w S) (hf : Fr S w W) (hs : ∀ k ∈ S', k < w.heap.size → k ∈ S) : x.Li W S' :=
 ⟨h.e, h.r, h.k.keep hf hs, h.l.keep' hf h.ap (fun _ _ h => h), h.n, fun hn a ha hin => h.ap hn a ha (hs _ hin (h.l.lt hn (by decide) (fun v hv => Wvt.len (h.l.2.1 v hv).2.h) a ha))⟩
theorem Blk.thereM {w : World} {g : Nat} {t : TypeId} {cs : Array Value} (h : Blk w g t cs) (o n : Nat) (hn : o + n ≤ cs.size) : w.there g o n := fun j hj => by
 have hc := h.cell (o + j)
 rw [Array.getElem?_eq_getElem (by omega)] at hc
 exact ⟨by rw [hc]; rfl, h.frozen (o + j)⟩
theorem Wmg.blk_cm {w : World} {g : Nat} {t : TypeId} {x : Wmg} (hx : x.Len) (v : Wcm) (hv : v.cells.length = 37) (hb : Blk w g t x.cells.toArray) : Blk (w.setCells g 3 v.cells) g t ({x with cm := v} : Wmg).cells.toArray :=
 Blk.mid_at v.cells x.cm.cells ([.int .i64 x.q] ++ ([.int .i64 x.f] ++ ([.int .i64 x.t]))) (x.st.cells ++ (x.ce.cells ++ (x.ak.cells ++ ([.int .i64 x.e] ++ ([.int .i64 x.r] ++ ([.int .u64 (x.tm : Int)] ++ (x.pr.cells ++ (x.po.cells ++ (x.vt.cells ++ ([.int .i64 x.i] ++ (x.en.cells ++ (x.op.cells ++ (x.dn.cells ++ ([.string ⟨x.rp.toArray⟩] ++ (x.de.cells))))))))))))))) 3 (by simp only [List.length_append, List.length_cons, List.length_nil]) (by rw [hv, Wcm.len hx.cm]) _ _ (by simp only [Wmg.cells, List.append_assoc, List.append_nil]) (by simp only [Wmg.cells, List.append_assoc, List.append_nil]) hb
theorem Wmg.blk_st {w : World} {g : Nat} {t : TypeId} {x : Wmg} (hx : x.Len) (v : Wst) (hv : v.cells.length = 38) (hb : Blk w g t x.cells.toArray) : Blk (w.setCells g 40 v.cells) g t ({x with st := v} : Wmg).cells.toArray :=
 Blk.mid_at v.cells x.st.cells ([.int .i64 x.q] ++ ([.int .i64 x.f] ++ ([.int .i64 x.t] ++ (x.cm.cells)))) (x.ce.cells ++ (x.ak.cells ++ ([.int .i64 x.e] ++ ([.int .i64 x.r] ++ ([.int .u64 (x.tm : Int)] ++ (x.pr.cells ++ (x.po.cells ++ (x.vt.cells ++ ([.int .i64 x.i] ++ (x.en.cells ++ (x.op.cells ++ (x.dn.cells ++ ([.string ⟨x.rp.toArray⟩] ++ (x.de.cells)))))))))))))) 40 (by simp only [List.length_append, List.length_cons, List.length_nil, Wcm.len hx.cm]) (by rw [hv, Wst.len hx.st]) _ _ (by simp only [Wmg.cells, List.append_assoc, List.append_nil]) (by simp only [Wmg.cells, List.append_assoc, List.append_nil]) hb
theorem Wmg.blk_ce {w : World} {g : Nat} {t : TypeId} {x : Wmg} (hx : x.Len) (v : Wce) (hv : v.cells.length = 38) (hb : Blk w g t x.cells.toArray) : Blk (w.setCells g 78 v.cells) g t ({x with ce := v} : Wmg).cells.toArray :=
 Blk.mid_at v.cells x.ce.cells ([.int .i64 x.q] ++ ([.int .i64 x.f] ++ ([.int .i64 x.t] ++ (x.cm.cells ++ (x.st.cells))))) (x.ak.cells ++ ([.int .i64 x.e] ++ ([.int .i64 x.r] ++ ([.int .u64 (x.tm : Int)] ++ (x.pr.cells ++ (x.po.cells ++ (x.vt.cells ++ ([.int .i64 x.i] ++ (x.en.cells ++ (x.op.cells ++ (x.dn.cells ++ ([.string ⟨x.rp.toArray⟩] ++ (x.de.cells))))))))))))) 78 (by simp only [List.length_append, List.length_cons, List.length_nil, Wcm.len hx.cm, Wst.len hx.st]) (by rw [hv, Wce.len hx.ce]) _ _ (by simp only [Wmg.cells, List.append_assoc, List.append_nil]) (by simp only [Wmg.cells, List.append_assoc, List.append_nil]) hb
theorem Wmg.blk_ak {w : World} {g : Nat} {t : TypeId} {x : Wmg} (hx : x.Len) (v : Wst) (hv : v.cells.length = 38) (hb : Blk w g t x.cells.toArray) : Blk (w.setCells g 116 v.cells) g t ({x with ak := v} : Wmg).cells.toArray :=
 Blk.mid_at v.cells x.ak.cells ([.int .i64 x.q] ++ ([.int .i64 x.f] ++ ([.int .i64 x.t] ++ (x.cm.cells ++ (x.st.cells ++ (x.ce.cells)))))) ([.int .i64 x.e] ++ ([.int .i64 x.r] ++ ([.int .u64 (x.tm : Int)] ++ (x.pr.cells ++ (x.po.cells ++ (x.vt.cells ++ ([.int .i64 x.i] ++ (x.en.cells ++ (x.op.cells ++ (x.dn.cells ++ ([.string ⟨x.rp.toArray⟩] ++ (x.de.cells)))))))))))) 116 (by simp only [List.length_append, List.length_cons, List.length_nil, Wcm.len hx.cm, Wst.len hx.st, Wce.len hx.ce]) (by rw [hv, Wst.len hx.ak]) _ _ (by simp only [Wmg.cells, List.append_assoc, List.append_nil]) (by simp only [Wmg.cells, List.append_assoc, List.append_nil]) hb
theorem Wmg.blk_pr {w : World} {g : Nat} {t : TypeId} {x : Wmg} (hx : x.Len) (v : Wpr) (hv : v.cells.length = 6) (hb : Blk w g t x.cells.toArray) : Blk (w.setCells g 157 v.cells) g t ({x with pr := v} : Wmg).cells.toArray :=
 Blk.mid_at v.cells x.pr.cells ([.int .i64 x.q] ++ ([.int .i64 x.f] ++ ([.int .i64 x.t] ++ (x.cm.cells ++ (x.st.cells ++ (x.ce.cells ++ (x.ak.cells ++ ([.int .i64 x.e] ++ ([.int .i64 x.r] ++ ([.int .u64 (x.tm : Int)])))))))))) (x.po.cells ++ (x.vt.cells ++ ([.int .i64 x.i] ++ (x.en.cells ++ (x.op.cells ++ (x.dn.cells ++ ([.string ⟨x.rp.toArray⟩] ++ (x.de.cells)))))))) 157 (by simp only [List.length_append, List.length_cons, List.length_nil, Wcm.len hx.cm, Wst.len hx.st, Wce.len hx.ce, Wst.len hx.ak]) (by rw [hv, Wpr.len x.pr]) _ _ (by simp only [Wmg.cells, List.append_assoc, List.append_nil]) (by simp only [Wmg.cells, List.append_assoc, List.append_nil]) hb
theorem Wmg.blk_po {w : World} {g : Nat} {t : TypeId} {x : Wmg} (hx : x.Len) (v : Wpo) (hv : v.cells.length = 11) (hb : Blk w g t x.cells.toArray) : Blk (w.setCells g 163 v.cells) g t ({x with po := v} : Wmg).cells.toArray :=
 Blk.mid_at v.cells x.po.cells ([.int .i64 x.q] ++ ([.int .i64 x.f] ++ ([.int .i64 x.t] ++ (x.cm.cells ++ (x.st.cells ++ (x.ce.cells ++ (x.ak.cells ++ ([.int .i64 x.e] ++ ([.int .i64 x.r] ++ ([.int .u64 (x.tm : Int)] ++ (x.pr.cells))))))))))) (x.vt.cells ++ ([.int .i64 x.i] ++ (x.en.cells ++ (x.op.cells ++ (x.dn.cells ++ ([.string ⟨x.rp.toArray⟩] ++ (x.de.cells))))))) 163 (by simp only [List.length_append, List.length_cons, List.length_nil, Wcm.len hx.cm, Wst.len hx.st, Wce.len hx.ce, Wst.len hx.ak, Wpr.len x.pr]) (by rw [hv, Wpo.len x.po]) _ _ (by simp only [Wmg.cells, List.append_assoc, List.append_nil]) (by simp only [Wmg.cells, List.append_assoc, List.append_nil]) hb
theorem Wmg.blk_vt {w : World} {g : Nat} {t : TypeId} {x : Wmg} (hx : x.Len) (v : Wvt) (hv : v.cells.length = 38) (hb : Blk w g t x.cells.toArray) : Blk (w.setCells g 174 v.cells) g t ({x with vt := v} : Wmg).cells.toArray :=
 Blk.mid_at v.cells x.vt.cells ([.int .i64 x.q] ++ ([.int .i64 x.f] ++ ([.int .i64 x.t] ++ (x.cm.cells ++ (x.st.cells ++ (x.ce.cells ++ (x.ak.cells ++ ([.int .i64 x.e] ++ ([.int .i64 x.r] ++ ([.int .u64 (x.tm : Int)] ++ (x.pr.cells ++ (x.po.cells)))))))))))) ([.int .i64 x.i] ++ (x.en.cells ++ (x.op.cells ++ (x.dn.cells ++ ([.string ⟨x.rp.toArray⟩] ++ (x.de.cells)))))) 174 (by simp only [List.length_append, List.length_cons, List.length_nil, Wcm.len hx.cm, Wst.len hx.st, Wce.len hx.ce, Wst.len hx.ak, Wpr.len x.pr, Wpo.len x.po]) (by rw [hv, Wvt.len hx.vt]) _ _ (by simp only [Wmg.cells, List.append_assoc, List.append_nil]) (by simp only [Wmg.cells, List.append_assoc, List.append_nil]) hb
theorem Wmg.blk_op {w : World} {g : Nat} {t : TypeId} {x : Wmg} (hx : x.Len) (v : Wop) (hv : v.cells.length = 34) (hb : Blk w g t x.cells.toArray) : Blk (w.setCells g 248 v.cells) g t ({x with op := v} : Wmg).cells.toArray :=
 Blk.mid_at v.cells x.op.cells ([.int .i64 x.q] ++ ([.int .i64 x.f] ++ ([.int .i64 x.t] ++ (x.cm.cells ++ (x.st.cells ++ (x.ce.cells ++ (x.ak.cells ++ ([.int .i64 x.e] ++ ([.int .i64 x.r] ++ ([.int .u64 (x.tm : Int)] ++ (x.pr.cells ++ (x.po.cells ++ (x.vt.cells ++ ([.int .i64 x.i] ++ (x.en.cells))))))))))))))) (x.dn.cells ++ ([.string ⟨x.rp.toArray⟩] ++ (x.de.cells))) 248 (by simp only [List.length_append, List.length_cons, List.length_nil, Wcm.len hx.cm, Wst.len hx.st, Wce.len hx.ce, Wst.len hx.ak, Wpr.len x.pr, Wpo.len x.po, Wvt.len hx.vt, Wen.len hx.en]) (by rw [hv, Wop.len hx.op]) _ _ (by simp only [Wmg.cells, List.append_assoc, List.append_nil]) (by simp only [Wmg.cells, List.append_assoc, List.append_nil]) hb
theorem Wmg.blk_dn {w : World} {g : Nat} {t : TypeId} {x : Wmg} (hx : x.Len) (v : Wdn) (hv : v.cells.length = 4) (hb : Blk w g t x.cells.toArray) : Blk (w.setCells g 282 v.cells) g t ({x with dn := v} : Wmg).cells.toArray :=
 Blk.mid_at v.cells x.dn.cells ([.int .i64 x.q] ++ ([.int .i64 x.f] ++ ([.int .i64 x.t] ++ (x.cm.cells ++ (x.st.cells ++ (x.ce.cells ++ (x.ak.cells ++ ([.int .i64 x.e] ++ ([.int .i64 x.r] ++ ([.int .u64 (x.tm : Int)] ++ (x.pr.cells ++ (x.po.cells ++ (x.vt.cells ++ ([.int .i64 x.i] ++ (x.en.cells ++ (x.op.cells)))))))))))))))) ([.string ⟨x.rp.toArray⟩] ++ (x.de.cells)) 282 (by simp only [List.length_append, List.length_cons, List.length_nil, Wcm.len hx.cm, Wst.len hx.st, Wce.len hx.ce, Wst.len hx.ak, Wpr.len x.pr, Wpo.len x.po, Wvt.len hx.vt, Wen.len hx.en, Wop.len hx.op]) (by rw [hv, Wdn.len x.dn]) _ _ (by simp only [Wmg.cells, List.append_assoc, List.append_nil]) (by simp only [Wmg.cells, List.append_assoc, List.append_nil]) hb
theorem Wmg.blk_de {w : World} {g : Nat} {t : TypeId} {x : Wmg} (hx : x.Len) (v : Wdc) (hv : v.cells.length = 8) (hb : Blk w g t x.cells.toArray) : Blk (w.setCells g 287 v.cells) g t ({x with de := v} : Wmg).cells.toArray :=
 Blk.mid_at v.cells x.de.cells ([.int .i64 x.q] ++ ([.int .i64 x.f] ++ ([.int .i64 x.t] ++ (x.cm.cells ++ (x.st.cells ++ (x.ce.cells ++ (x.ak.cells ++ ([.int .i64 x.e] ++ ([.int .i64 x.r] ++ ([.int .u64 (x.tm : Int)] ++ (x.pr.cells ++ (x.po.cells ++ (x.vt.cells ++ ([.int .i64 x.i] ++ (x.en.cells ++ (x.op.cells ++ (x.dn.cells ++ ([.string ⟨x.rp.toArray⟩])))))))))))))))))) ([]) 287 (by simp only [List.length_append, List.length_cons, List.length_nil, Wcm.len hx.cm, Wst.len hx.st, Wce.len hx.ce, Wst.len hx.ak, Wpr.len x.pr, Wpo.len x.po, Wvt.len hx.vt, Wen.len hx.en, Wop.len hx.op, Wdn.len x.dn]) (by rw [hv, Wdc.len x.de]) _ _ (by simp only [Wmg.cells, List.append_assoc, List.append_nil]) (by simp only [Wmg.cells, List.append_assoc, List.append_nil]) hb
end Go.Proofs.YtpcnedpheplofaaGreat

namespace Go.Proofs.YtpcnedpheplofaaGreat
open Go.RowKit
set_option maxRecDepth 100000
theorem wpList_store_at {P : Program} {ops : Array Oper} {rest : List Oper} {op : Oper} {a : Act} {w : World} {Q : Exit → Act → World → Prop} (hg : op.guard = none) (ty : TypeId) (x y : Operand) (ho : op.op = .store ty x y)
  (g i : Nat) (v : Value) (hx : a.eval x = .pointer (some ⟨g, i, none⟩)) (hy : a.eval y = v) (h1 : v.oneCell' = true) (t : TypeId) (cs : Array Value) (hb : Blk w g t cs) (hi : i < cs.size) (hsz : (P.info? ty).map (·.size) = some 1)
  (h : wpList P ops Q rest (a.put op.dst undef) (w.setCells g i [v])) : wpList P ops Q (op :: rest) a w :=
 wpList_plain hg fun _ hK => wp_store_at ty x y ho g i v hx hy h1 t cs hb hi hsz (hK _ _ h)
theorem Wmg.blk_i {w : World} {g : Nat} {t : TypeId} {x : Wmg} (hx : x.Len) (v : Int) (hb : Blk w g t x.cells.toArray) : Blk (w.setCells g 212 [.int .i64 v]) g t ({x with i := v} : Wmg).cells.toArray :=
 Blk.mid_at [.int .i64 v] [.int .i64 x.i] ([.int .i64 x.q] ++ ([.int .i64 x.f] ++ ([.int .i64 x.t] ++ (x.cm.cells ++ (x.st.cells ++ (x.ce.cells ++ (x.ak.cells ++ ([.int .i64 x.e] ++ ([.int .i64 x.r] ++ ([.int .u64 (x.tm : Int)] ++ (x.pr.cells ++ (x.po.cells ++ (x.vt.cells))))))))))))) (x.en.cells ++ (x.op.cells ++ (x.dn.cells ++ ([.string ⟨x.rp.toArray⟩] ++ (x.de.cells))))) 212 (by simp only [List.length_append, List.length_cons, List.length_nil, Wcm.len hx.cm, Wst.len hx.st, Wce.len hx.ce, Wst.len hx.ak, Wpr.len x.pr, Wpo.len x.po, Wvt.len hx.vt]) rfl _ _ (by simp only [Wmg.cells, List.append_assoc, List.append_nil]) (by simp only [Wmg.cells, List.append_assoc, List.append_nil]) hb
theorem Wmg.blk_e {w : World} {g : Nat} {t : TypeId} {x : Wmg} (hx : x.Len) (v : Int) (hb : Blk w g t x.cells.toArray) : Blk (w.setCells g 154 [.int .i64 v]) g t ({x with e := v} : Wmg).cells.toArray :=
 Blk.mid_at [.int .i64 v] [.int .i64 x.e] ([.int .i64 x.q] ++ ([.int .i64 x.f] ++ ([.int .i64 x.t] ++ (x.cm.cells ++ (x.st.cells ++ (x.ce.cells ++ (x.ak.cells))))))) ([.int .i64 x.r] ++ ([.int .u64 (x.tm : Int)] ++ (x.pr.cells ++ (x.po.cells ++ (x.vt.cells ++ ([.int .i64 x.i] ++ (x.en.cells ++ (x.op.cells ++ (x.dn.cells ++ ([.string ⟨x.rp.toArray⟩] ++ (x.de.cells))))))))))) 154 (by simp only [List.length_append, List.length_cons, List.length_nil, Wcm.len hx.cm, Wst.len hx.st, Wce.len hx.ce, Wst.len hx.ak]) rfl _ _ (by simp only [Wmg.cells, List.append_assoc, List.append_nil]) (by simp only [Wmg.cells, List.append_assoc, List.append_nil]) hb
theorem Wmg.blk_r {w : World} {g : Nat} {t : TypeId} {x : Wmg} (hx : x.Len) (v : Int) (hb : Blk w g t x.cells.toArray) : Blk (w.setCells g 155 [.int .i64 v]) g t ({x with r := v} : Wmg).cells.toArray :=
 Blk.mid_at [.int .i64 v] [.int .i64 x.r] ([.int .i64 x.q] ++ ([.int .i64 x.f] ++ ([.int .i64 x.t] ++ (x.cm.cells ++ (x.st.cells ++ (x.ce.cells ++ (x.ak.cells ++ ([.int .i64 x.e])))))))) ([.int .u64 (x.tm : Int)] ++ (x.pr.cells ++ (x.po.cells ++ (x.vt.cells ++ ([.int .i64 x.i] ++ (x.en.cells ++ (x.op.cells ++ (x.dn.cells ++ ([.string ⟨x.rp.toArray⟩] ++ (x.de.cells)))))))))) 155 (by simp only [List.length_append, List.length_cons, List.length_nil, Wcm.len hx.cm, Wst.len hx.st, Wce.len hx.ce, Wst.len hx.ak]) rfl _ _ (by simp only [Wmg.cells, List.append_assoc, List.append_nil]) (by simp only [Wmg.cells, List.append_assoc, List.append_nil]) hb
theorem Wmg.blk_tm {w : World} {g : Nat} {t : TypeId} {x : Wmg} (hx : x.Len) (v : Nat) (hb : Blk w g t x.cells.toArray) : Blk (w.setCells g 156 [.int .u64 (v : Int)]) g t ({x with tm := v} : Wmg).cells.toArray :=
 Blk.mid_at [.int .u64 (v : Int)] [.int .u64 (x.tm : Int)] ([.int .i64 x.q] ++ ([.int .i64 x.f] ++ ([.int .i64 x.t] ++ (x.cm.cells ++ (x.st.cells ++ (x.ce.cells ++ (x.ak.cells ++ ([.int .i64 x.e] ++ ([.int .i64 x.r]))))))))) (x.pr.cells ++ (x.po.cells ++ (x.vt.cells ++ ([.int .i64 x.i] ++ (x.en.cells ++ (x.op.cells ++ (x.dn.cells ++ ([.string ⟨x.rp.toArray⟩] ++ (x.de.cells))))))))) 156 (by simp only [List.length_append, List.length_cons, List.length_nil, Wcm.len hx.cm, Wst.len hx.st, Wce.len hx.ce, Wst.len hx.ak]) rfl _ _ (by simp only [Wmg.cells, List.append_assoc, List.append_nil]) (by simp only [Wmg.cells, List.append_assoc, List.append_nil]) hb
theorem Wmg.blk_rp {w : World} {g : Nat} {t : TypeId} {x : Wmg} (hx : x.Len) (v : List UInt8) (hb : Blk w g t x.cells.toArray) : Blk (w.setCells g 286 [.string ⟨(v).toArray⟩]) g t ({x with rp := v} : Wmg).cells.toArray :=
 Blk.mid_at [.string ⟨(v).toArray⟩] [.string ⟨x.rp.toArray⟩] ([.int .i64 x.q] ++ ([.int .i64 x.f] ++ ([.int .i64 x.t] ++ (x.cm.cells ++ (x.st.cells ++ (x.ce.cells ++ (x.ak.cells ++ ([.int .i64 x.e] ++ ([.int .i64 x.r] ++ ([.int .u64 (x.tm : Int)] ++ (x.pr.cells ++ (x.po.cells ++ (x.vt.cells ++ ([.int .i64 x.i] ++ (x.en.cells ++ (x.op.cells ++ (x.dn.cells))))))))))))))))) (x.de.cells) 286 (by simp only [List.length_append, List.length_cons, List.length_nil, Wcm.len hx.cm, Wst.len hx.st, Wce.len hx.ce, Wst.len hx.ak, Wpr.len x.pr, Wpo.len x.po, Wvt.len hx.vt, Wen.len hx.en, Wop.len hx.op, Wdn.len x.dn]) rfl _ _ (by simp only [Wmg.cells, List.append_assoc, List.append_nil]) (by simp only [Wmg.cells, List.append_assoc, List.append_nil]) hb
theorem Wmg.blk_en {w : World} {g : Nat} {t : TypeId} {x : Wmg} (hx : x.Len) (v : Wen) (hv : v.cells.length = 35) (hb : Blk w g t x.cells.toArray) : Blk (w.setCells g 213 v.cells) g t ({x with en := v} : Wmg).cells.toArray :=
 Blk.mid_at v.cells x.en.cells ([.int .i64 x.q] ++ ([.int .i64 x.f] ++ ([.int .i64 x.t] ++ (x.cm.cells ++ (x.st.cells ++ (x.ce.cells ++ (x.ak.cells ++ ([.int .i64 x.e] ++ ([.int .i64 x.r] ++ ([.int .u64 (x.tm : Int)] ++ (x.pr.cells ++ (x.po.cells ++ (x.vt.cells ++ ([.int .i64 x.i])))))))))))))) (x.op.cells ++ (x.dn.cells ++ ([.string ⟨x.rp.toArray⟩] ++ (x.de.cells)))) 213 (by simp only [List.length_append, List.length_cons, List.length_nil, Wcm.len hx.cm, Wst.len hx.st, Wce.len hx.ce, Wst.len hx.ak, Wpr.len x.pr, Wpo.len x.po, Wvt.len hx.vt]) (by rw [hv, Wen.len hx.en]) _ _ (by simp only [Wmg.cells, List.append_assoc, List.append_nil]) (by simp only [Wmg.cells, List.append_assoc, List.append_nil]) hb
end Go.Proofs.YtpcnedpheplofaaGreat

namespace Go.Proofs.YtpcnedpheplofaaGreat
open Go.RowKit
set_option maxRecDepth 100000
section
variable {P : Program} (w : World)
theorem run_append_ownm {α : Type} {cells : α → List Value} {ok : World → α → Prop} (hone : ∀ v, ∀ u ∈ cells v, u.oneCell' = true) (t ty e : TypeId) (k bytes : Nat) (ht : P.underlying t = some (.slice e)) (he : ElTy P e k bytes) (hk : 0 < k) (hby : bytes ≤ 1000)
  (V : Option Addr) (n c0 : Nat) (xs : List α) (hown : w.ownsRow 0 e k (.slice V n c0) n (xs.flatMap cells)) (A : Option Addr) (m c : Nat) (l : List α) (hr : Lst k cells ok w A m l) (hm : n + m ≤ 1000000) :
  ∃ A' c' w', (Builtin.append_ #[t, t] ty #[.slice V n c0, .slice A m c]).run P w = .ok (.slice A' (n + m) c') w' ∧ w'.ownsRow 0 e k (.slice A' (n + m) c') (n + m) ((xs ++ l).flatMap cells) ∧ Fr (bk V) w w' ∧ ∀ x ∈ bk A', x ∈ bk V ∨ w.heap.size ≤ x := by
 obtain ⟨i, z, hi, hz, hzs, hsz, hbs⟩ := he
 rw [List.flatMap_append]
 suffices h : ∃ v' w', (Builtin.append_ #[t, t] ty #[.slice V n c0, .slice A m c]).run P w = .ok v' w' ∧ w'.ownsRow 0 e k v' (n + m) (xs.flatMap cells ++ l.flatMap cells) ∧ w.grownBy w' (Value.slice V n c0).ownBlock ∧ (v'.ownBlock = (Value.slice V n c0).ownBlock ∨ v'.ownBlock = some w.heap.size) by
  obtain ⟨v', w', h1, h2, h3, h4⟩ := h
  obtain ⟨A', c', rfl⟩ := own_form h2
  refine ⟨A', c', w', h1, h2, (Fr.refl _ w).grown h3 (fun y hy _ => by rw [← bk_own V n c0, hy]; simp), fun x hx => ?_⟩
  rw [← bk_own A' (n + m) c'] at hx
  rcases h4 with h4 | h4
  · rw [h4, bk_own V n c0] at hx; exact .inl hx
  · rw [h4] at hx; simp at hx; exact .inr (by omega)
 rcases A with _ | ad
 · have hm0 : m = 0 := by
    rcases Nat.eq_zero_or_pos m with h0 | h0
    · exact h0
    · obtain ⟨ad, h, _⟩ := hr.2.2 h0
      cases h
   subst hm0
   have hn : l = [] := List.eq_nil_of_length_eq_zero hr.1
   subst hn
   exact ⟨_, w, run_append_nothing w 0 t ty e i k ht hi _ n _ hown c, by simpa using hown, World.grownBy.refl w _, .inl rfl⟩
 · obtain ⟨v', w', hrun, h2, h3, _, h5⟩ := run_append_own_at (P := P) w 0 t ty e i z k bytes ht hi hz hsz hbs hzs hk _ n _ hown ad m c (l.flatMap cells)
    (by rw [cells_flat_len (fun v hv => (hr.2.1 v hv).1), hr.1]) (hr.flat hk) (cells_one hone l) (by simp only [maxLen]; omega)
    (Nat.le_trans (Nat.mul_le_mul hm hby) (by decide)) (Nat.zero_le _)
   exact ⟨v', w', hrun, h2, h3, h5⟩
theorem wpList_append_ownm {α : Type} {cells : α → List Value} {ok : World → α → Prop} {ops : Array Oper} {rest : List Oper} {o : Oper} {a : Act} {Q : Exit → Act → World → Prop} (hgd : o.guard = none) (s x : Operand) (t : TypeId)
  (ho : o.op = .call { callee := .builtin .append, args := #[s, x], argTypes := #[t, t] }) (e : TypeId) (k bytes : Nat) (ht : P.underlying t = some (.slice e)) (he : ElTy P e k bytes) (hk : 0 < k) (hby : bytes ≤ 1000)
  (hone : ∀ v, ∀ u ∈ cells v, u.oneCell' = true) (V : Option Addr) (n c0 : Nat) (xs : List α) (hs : a.eval s = .slice V n c0) (hown : w.ownsRow 0 e k (.slice V n c0) n (xs.flatMap cells)) (A : Option Addr) (m c : Nat) (l : List α) (hx : a.eval x = .slice A m c) (hr : Lst k cells ok w A m l) (hm : n + m ≤ 1000000)
  (h : ∀ A' c' w', w'.ownsRow 0 e k (.slice A' (n + m) c') (n + m) ((xs ++ l).flatMap cells) → Fr (bk V) w w' → (∀ x ∈ bk A', x ∈ bk V ∨ w.heap.size ≤ x) → wpList P ops Q rest (a.put o.dst (.slice A' (n + m) c')) w') : wpList P ops Q (o :: rest) a w := by
 refine wpList_plain hgd fun K hK => ?_
 obtain ⟨A', c', w', hrun, h2, h3, h4⟩ := run_append_ownm (P := P) w hone t o.type e k bytes ht he hk hby V n c0 xs hown A m c l hr hm
 unfold Oper.wp execOp
 simp only [ho, resolve, invoke, builtin, Sem.run_bind, Sem.run_pure, Result.andThen_ok, List.map_toArray, List.map_cons, List.map_nil, hs, hx, hrun]
 exact hK _ _ (h A' c' w' h2 h3 h4)
end
theorem el_voteC : ElTy Tryz.prog 49 38 80 := ElTy.of (by kernel_rfl)
theorem el_denyC : ElTy Tryz.prog 56 4 32 := ElTy.of (by kernel_rfl)
theorem cloneStamps_any (A : Option Addr) (n c : Nat) (l : List Wst) (w : World) (hr : Lst 38 Wst.cells (fun _ v => v.Ok) w A n l) (hn : n ≤ 1000000) :
  Calls Tryz.prog 97 #[.slice A n c] w fun e w' => ∃ A' c', e = .returned (.slice A' n c') ∧ NewL 32 38 Wst.cells w w' A' n c' l := by
 have HR := Lib.hid hr
 have HN := Lib.hid hn
 rcases A with _ | ad
 · have hn0 : n = 0 := by
    rcases Nat.eq_zero_or_pos n with h | h
    · exact h
    · obtain ⟨a, ha, _⟩ := hr.2.2 h
      cases ha
   subst hn0
   have hl0 : l = [] := List.eq_nil_of_length_eq_zero hr.1
   subst hl0
   clear hr hn
   go_enter Tryz.func97, Tryz.ntmps97
   have hq := fun w => Go.run_eql_slice_nil (P := Tryz.prog) w 33 32 none 0 c Tryz.underlying33
   simp only [Option.isNone_none] at hq
   go_wp2
   go_ret
   exact ⟨none, 0, rfl, ⟨by simp, .inl ⟨rfl, rfl⟩⟩, Fr.refl _ _, by simp [bk]⟩
 · clear hr hn
   go_enter Tryz.func97, Tryz.ntmps97
   have hq := fun w => Go.run_eql_slice_nil (P := Tryz.prog) w 33 32 (some ad) n c Tryz.underlying33
   simp only [Option.isNone_some] at hq
   go_wp2_with (at_builtin; refine Stop.mk ?_)
   refine Stop.go ?_
   have hown : (w.alloc (Obj.cells #[] 32)).ownsRow 0 32 38 (.slice (some ⟨w.heap.size, 0, none⟩) 0 0) 0 (([] : List Wst).flatMap Wst.cells) :=
    ⟨by simp, .inr ⟨w.heap.size, 0, #[], rfl, Nat.zero_le _, Blk.new w _ _, Nat.le_refl _, Nat.zero_le _, rfl, by simp⟩⟩
   refine wpList_append_ownm _ rfl (.tmp 5) (.tmp 6) _ rfl 32 38 80 Tryz.underlying33 el_stamp (by decide) (by decide) Wst.one (some ⟨w.heap.size, 0, none⟩) 0 0 [] rfl hown (some ad) n c l rfl
    (HR.out.keep ((Fr.refl [] w).alloc _) (by simp) (fun _ _ h => h)) (by have := HN.out; omega) ?_
   intro A1 c1 w1 ho hf hb
   rw [Nat.zero_add, List.nil_append] at ho
   have HO : Hid (NewL 32 38 Wst.cells w w1 A1 n c1 l) := Lib.hid ⟨ho, ((Fr.refl [] w).alloc _).and hf (by intro x hx; simp [bk] at hx; omega), fun x hx => by
    rcases hb x hx with h | h
    · simp [bk] at h; omega
    · simp at h; omega⟩
   clear ho hf hb hown
   simp only [Nat.zero_add]
   go_wp2
   go_ret
   exact ⟨A1, c1, rfl, HO.out⟩
theorem cloneVotes_any (A : Option Addr) (n c : Nat) (l : List Wvt) (w : World) (hr : Lst 38 Wvt.cells (fun _ v => v.Ok) w A n l) (hn : n ≤ 1000000) :
  Calls Tryz.prog 100 #[.slice A n c] w fun e w' => ∃ A' c', e = .returned (.slice A' n c') ∧ NewL 49 38 Wvt.cells w w' A' n c' l := by
 have HR := Lib.hid hr
 have HN := Lib.hid hn
 rcases A with _ | ad
 · have hn0 : n = 0 := by
    rcases Nat.eq_zero_or_pos n with h | h
    · exact h
    · obtain ⟨a, ha, _⟩ := hr.2.2 h
      cases ha
   subst hn0
   have hl0 : l = [] := List.eq_nil_of_length_eq_zero hr.1
   subst hl0
   clear hr hn
   go_enter Tryz.func100, Tryz.ntmps100
   have hq := fun w => Go.run_eql_slice_nil (P := Tryz.prog) w 57 49 none 0 c Tryz.underlying57
   simp only [Option.isNone_none] at hq
   go_wp2
   go_ret
   exact ⟨none, 0, rfl, ⟨by simp, .inl ⟨rfl, rfl⟩⟩, Fr.refl _ _, by simp [bk]⟩
 · clear hr hn
   go_enter Tryz.func100, Tryz.ntmps100
   have hq := fun w => Go.run_eql_slice_nil (P := Tryz.prog) w 57 49 (some ad) n c Tryz.underlying57
   simp only [Option.isNone_some] at hq
   go_wp2_with (at_builtin; refine Stop.mk ?_)
   refine Stop.go ?_
   have hown : (w.alloc (Obj.cells #[] 49)).ownsRow 0 49 38 (.slice (some ⟨w.heap.size, 0, none⟩) 0 0) 0 (([] : List Wvt).flatMap Wvt.cells) :=
    ⟨by simp, .inr ⟨w.heap.size, 0, #[], rfl, Nat.zero_le _, Blk.new w _ _, Nat.le_refl _, Nat.zero_le _, rfl, by simp⟩⟩
   refine wpList_append_ownm _ rfl (.tmp 5) (.tmp 6) _ rfl 49 38 80 Tryz.underlying57 el_voteC (by decide) (by decide) Wvt.one (some ⟨w.heap.size, 0, none⟩) 0 0 [] rfl hown (some ad) n c l rfl
    (HR.out.keep ((Fr.refl [] w).alloc _) (by simp) (fun _ _ h => h)) (by have := HN.out; omega) ?_
   intro A1 c1 w1 ho hf hb
   rw [Nat.zero_add, List.nil_append] at ho
   have HO : Hid (NewL 49 38 Wvt.cells w w1 A1 n c1 l) := Lib.hid ⟨ho, ((Fr.refl [] w).alloc _).and hf (by intro x hx; simp [bk] at hx; omega), fun x hx => by
    rcases hb x hx with h | h
    · simp [bk] at h; omega
    · simp at h; omega⟩
   clear ho hf hb hown
   simp only [Nat.zero_add]
   go_wp2
   go_ret
   exact ⟨A1, c1, rfl, HO.out⟩
theorem cloneDenies_any (A : Option Addr) (n c : Nat) (l : List Wdn) (w : World) (hr : Lst 4 Wdn.cells (fun _ v => v.Ok) w A n l) (hn : n ≤ 1000000) :
  Calls Tryz.prog 151 #[.slice A n c] w fun e w' => ∃ A' c', e = .returned (.slice A' n c') ∧ NewL 56 4 Wdn.cells w w' A' n c' l := by
 have HR := Lib.hid hr
 have HN := Lib.hid hn
 rcases A with _ | ad
 · have hn0 : n = 0 := by
    rcases Nat.eq_zero_or_pos n with h | h
    · exact h
    · obtain ⟨a, ha, _⟩ := hr.2.2 h
      cases ha
   subst hn0
   have hl0 : l = [] := List.eq_nil_of_length_eq_zero hr.1
   subst hl0
   clear hr hn
   go_enter Tryz.func151, Tryz.ntmps151
   have hq := fun w => Go.run_eql_slice_nil (P := Tryz.prog) w 130 56 none 0 c Tryz.underlying130
   simp only [Option.isNone_none] at hq
   go_wp2
   go_ret
   exact ⟨none, 0, rfl, ⟨by simp, .inl ⟨rfl, rfl⟩⟩, Fr.refl _ _, by simp [bk]⟩
 · clear hr hn
   go_enter Tryz.func151, Tryz.ntmps151
   have hq := fun w => Go.run_eql_slice_nil (P := Tryz.prog) w 130 56 (some ad) n c Tryz.underlying130
   simp only [Option.isNone_some] at hq
   go_wp2_with (at_builtin; refine Stop.mk ?_)
   refine Stop.go ?_
   have hown : (w.alloc (Obj.cells #[] 56)).ownsRow 0 56 4 (.slice (some ⟨w.heap.size, 0, none⟩) 0 0) 0 (([] : List Wdn).flatMap Wdn.cells) :=
    ⟨by simp, .inr ⟨w.heap.size, 0, #[], rfl, Nat.zero_le _, Blk.new w _ _, Nat.le_refl _, Nat.zero_le _, rfl, by simp⟩⟩
   refine wpList_append_ownm _ rfl (.tmp 5) (.tmp 6) _ rfl 56 4 32 Tryz.underlying130 el_denyC (by decide) (by decide) Wdn.one (some ⟨w.heap.size, 0, none⟩) 0 0 [] rfl hown (some ad) n c l rfl
    (HR.out.keep ((Fr.refl [] w).alloc _) (by simp) (fun _ _ h => h)) (by have := HN.out; omega) ?_
   intro A1 c1 w1 ho hf hb
   rw [Nat.zero_add, List.nil_append] at ho
   have HO : Hid (NewL 56 4 Wdn.cells w w1 A1 n c1 l) := Lib.hid ⟨ho, ((Fr.refl [] w).alloc _).and hf (by intro x hx; simp [bk] at hx; omega), fun x hx => by
    rcases hb x hx with h | h
    · simp [bk] at h; omega
    · simp at h; omega⟩
   clear ho hf hb hown
   simp only [Nat.zero_add]
   go_wp2
   go_ret
   exact ⟨A1, c1, rfl, HO.out⟩
def Copies {α β : Type} (f : FuncId) (cells : α → List Value) (ok : World → List Nat → α → Prop) (con : α → β) : Prop :=
 ∀ (v : α) (w : World), ok w [] v → Calls Tryz.prog f #[.agg (cells v).toArray] w fun e w' => ∃ y : α, e = .returned (.agg (cells y).toArray) ∧ con y = con v ∧ (∀ S0 : List Nat, (∀ q ∈ S0, q < w.heap.size) → ok w' S0 y) ∧ Fr [] w w'
def copyTomb_anyZ : Array Value := ((⟨0, none, 0, 0, []⟩ : Wtb)).cells.toArray
set_option maxHeartbeats 2000000 in
theorem copyTomb_any : Copies 134 Wtb.cells (fun w S v => v.Ok w S) Wtb.con := by
 intro x w hx
 obtain ⟨C, hC⟩ : ∃ C, x.cells = C := ⟨_, rfl⟩
 rw [hC]
 have hcl : C.length = 2 := by rw [← hC]; exact rfl
 obtain ⟨wa, hwa⟩ : ∃ wa, wa = (w.alloc (Obj.cells C.toArray 132)).alloc (Obj.cells copyTomb_anyZ 132) := ⟨_, rfl⟩
 have hf0 : Fr [] w wa := by rw [hwa]; exact ((Fr.refl [] w).alloc _).alloc _
 have hb0 : Blk wa w.heap.size 132 C.toArray := by rw [hwa]; exact blk_alloc (Blk.new _ _ _)
 have hb1 : Blk wa (w.heap.size + 1) 132 copyTomb_anyZ := by
  have := Blk.new (w.alloc (Obj.cells C.toArray 132)) 132 copyTomb_anyZ
  rw [hwa]
  simpa using this
 have hc1 : wa.cell? ⟨w.heap.size, 1, none⟩ = some (.slice x.A x.n x.d) := by
  have h := hb0.range (cs := C) 1 (.slice x.A x.n x.d) (by rw [← hC]; rfl)
  simpa using h
 have HX := Lib.hid hx
 have HC := Lib.hid hC
 have HCL := Lib.hid hcl
 have HB0 := Lib.hid hb0
 have HB1 := Lib.hid hb1
 have HF0 := Lib.hid hf0
 have HWA := Lib.hid hwa
 have HS2 : Hid (wa.heap.size = w.heap.size + 2) := Lib.hid (by rw [hwa]; simp)
 have HSV : Hid ((Tryz.prog.info? 130).map (·.size) = some 1) := Lib.hid (by kernel_rfl)
 clear hx hC hcl hb0 hb1 hf0 hwa
 go_enter Tryz.func134, Tryz.ntmps134
 go_upto_region 1 with (fail)
 change Code.wp _ _ _ _ ((w.alloc (Obj.cells C.toArray 132)).alloc (Obj.cells copyTomb_anyZ 132))
 rw [← HWA.out]
 go_wp2_with fail
 refine (cloneDenies_any x.A x.n x.d x.l wa (HX.out.l.keep' HF0.out (by simp) (fun _ _ h => h)) (by have := HX.out.n; omega)).mono ?_
 rintro e_ w1 ⟨A1, c1, rfl, hN⟩
 obtain ⟨n1, hn1⟩ : ∃ n1, n1 = x.n := ⟨_, rfl⟩
 rw [← hn1] at hN ⊢
 have HNE := Lib.hid hn1
 have HO1 := Lib.hid hN.1
 have HF1 : Hid (Fr [] wa w1) := Lib.hid hN.2.1
 have HN1 : Hid (∀ k ∈ bk A1, wa.heap.size ≤ k) := Lib.hid hN.2.2
 clear hN hn1
 have HB0 := Lib.hid (HB0.out.keep HF1.out (by simp))
 have HB1 := Lib.hid (HB1.out.keep HF1.out (by simp))
 clear hc1
 have HCE : Hid (C.set 1 (.slice A1 n1 c1) = (⟨x.i, A1, n1, c1, x.l⟩ : Wtb).cells) := Lib.hid (by rw [← HC.out]; rfl)
 have hb2 : Blk (w1.setCells w.heap.size 1 [.slice A1 n1 c1]) w.heap.size 132 (⟨x.i, A1, n1, c1, x.l⟩ : Wtb).cells.toArray := by
  have h := HB0.out.set 1 (.slice A1 n1 c1)
  rw [← HCE.out]
  simpa [World.setCells] using h
 have hfs : Fr [w.heap.size] w1 (w1.setCells w.heap.size 1 [.slice A1 n1 c1]) := Fr.setCells (fun _ => by simp) _ 1 _ (Fr.refl _ _)
 have HFS := Lib.hid hfs
 have HB2 := Lib.hid hb2
 clear hfs hb2
 go_upto_region 2 with (refine wpList_store_at rfl 130 _ _ rfl w.heap.size 1 (.slice A1 n1 c1) rfl rfl rfl 132 _ HB0.out (by rw [List.size_toArray, HCL.out]; decide) HSV.out ?_)
 change Code.wp _ _ _ _ (w1.setCells w.heap.size 1 [.slice A1 n1 c1])
 generalize w1.setCells w.heap.size 1 [.slice A1 n1 c1] = w2 at *
 have HB1 := Lib.hid (HB1.out.keep HFS.out (by simp))
 obtain ⟨E, hE⟩ : ∃ E, E = (⟨x.i, A1, n1, c1, x.l⟩ : Wtb).cells := ⟨_, rfl⟩
 have HEL : Hid (E.length = 2) := Lib.hid (by rw [hE]; exact rfl)
 have HEO : Hid (E.toArray.all (·.oneCell') = true) := Lib.hid (by rw [hE]; exact all_oneCell_toArray (Wtb.one _))
 have HES : Hid ((Tryz.prog.info? 132).map (·.size) = some E.toArray.size) := Lib.hid (by rw [List.size_toArray, HEL.out]; kernel_rfl)
 have HEM : Hid (copyTomb_anyZ.size = E.toArray.size) := Lib.hid (by rw [show E.toArray.size = E.length from List.size_toArray, HEL.out]; rfl)
 have HER : Hid (w2.rangeAt w.heap.size 0 E) := Lib.hid (by rw [hE]; exact HB2.out.range)
 go_wp2_with (first | (refine wpList_load_mid rfl 132 _ rfl w.heap.size 0 rfl E _ HER.out Tryz.underlying132 rfl (row_tmb.of HEL.out).2 ?_) | (refine wpList_store_blk rfl 132 _ _ rfl (w.heap.size + 1) E.toArray rfl rfl 132 copyTomb_anyZ HB1.out HES.out HEM.out HEO.out ?_; intro w9 hb9 hf9))
 refine bodyPost_ret (v := .agg E.toArray) (results_cell_row Tryz.results134 _ _ (w.heap.size + 1) 132 E.toArray _ _ rfl hb9 Tryz.underlying132 rfl HES.out) rfl ?_
 have HS9 : Fr [w.heap.size, w.heap.size + 1] w1 w9 := (HFS.out.mono (by intro k hk _; simp at hk; simp [hk])).trans hf9 (fun k hk _ => by simp at hk; simp [hk])
 refine ⟨⟨x.i, A1, n1, c1, x.l⟩, by rw [hE], rfl, fun S0 h0 => ?_, (HF0.out.and HF1.out (by simp)).go HS9 (by simp)⟩
 have hm : Fr (w.heap.size :: (w.heap.size + 1) :: S0) w1 w9 := HS9.mono (by intro k hk _; simp at hk; rcases hk with rfl | rfl <;> simp)
 have hnk : ∀ k ∈ bk A1, w.heap.size + 2 ≤ k := fun k hk => by have h1 := HN1.out k hk; have h2 := HS2.out; omega
 have hll : x.l.length = n1 := by rw [HNE.out]; exact HX.out.l.1
 exact ⟨HX.out.i, (Lst.of_own (ok := fun (_ : World) (v : Wdn) => v.Ok) HO1.out hll (fun u hu => HX.out.l.2.1 u hu)).keep' HS9 (fun hp a ha hm => by have h1 := hnk a.block (by rw [ha]; simp [bk]); simp at hm; omega) (fun _ _ h => h), by rw [HNE.out]; exact HX.out.n, fun hp a ha hm => by have ha : A1 = some a := ha; have h1 := hnk a.block (by rw [ha]; simp [bk]); have h2 := h0 _ hm; omega⟩
def copyCert_anyZ : Array Value := ((⟨⟨0, 0, mh0, 0, 0, 0⟩, none, 0, 0, []⟩ : Wce)).cells.toArray
set_option maxHeartbeats 2000000 in
theorem copyCert_any : Copies 50 Wce.cells (fun w S v => v.Ok w S) Wce.con := by
 intro x w hx
 obtain ⟨C, hC⟩ : ∃ C, x.cells = C := ⟨_, rfl⟩
 rw [hC]
 have hcl : C.length = 38 := by rw [← hC]; exact (Wce.len hx.k.h)
 obtain ⟨wa, hwa⟩ : ∃ wa, wa = (w.alloc (Obj.cells C.toArray 35)).alloc (Obj.cells copyCert_anyZ 35) := ⟨_, rfl⟩
 have hf0 : Fr [] w wa := by rw [hwa]; exact ((Fr.refl [] w).alloc _).alloc _
 have hb0 : Blk wa w.heap.size 35 C.toArray := by rw [hwa]; exact blk_alloc (Blk.new _ _ _)
 have hb1 : Blk wa (w.heap.size + 1) 35 copyCert_anyZ := by
  have := Blk.new (w.alloc (Obj.cells C.toArray 35)) 35 copyCert_anyZ
  rw [hwa]
  simpa using this
 have hc1 : wa.cell? ⟨w.heap.size, 37, none⟩ = some (.slice x.A x.n x.d) := by
  have h := hb0.range (cs := C) 37 (.slice x.A x.n x.d) (by rw [← hC]; simp [Wce.cells, Wcm.len hx.k.h])
  simpa using h
 have HX := Lib.hid hx
 have HC := Lib.hid hC
 have HCL := Lib.hid hcl
 have HB0 := Lib.hid hb0
 have HB1 := Lib.hid hb1
 have HF0 := Lib.hid hf0
 have HWA := Lib.hid hwa
 have HS2 : Hid (wa.heap.size = w.heap.size + 2) := Lib.hid (by rw [hwa]; simp)
 have HSV : Hid ((Tryz.prog.info? 33).map (·.size) = some 1) := Lib.hid (by kernel_rfl)
 clear hx hC hcl hb0 hb1 hf0 hwa
 go_enter Tryz.func50, Tryz.ntmps50
 go_upto_region 1 with (fail)
 change Code.wp _ _ _ _ ((w.alloc (Obj.cells C.toArray 35)).alloc (Obj.cells copyCert_anyZ 35))
 rw [← HWA.out]
 go_wp2_with fail
 refine (cloneStamps_any x.A x.n x.d x.l wa (HX.out.l.keep' HF0.out (by simp) (fun _ _ h => h)) (by have := HX.out.n; omega)).mono ?_
 rintro e_ w1 ⟨A1, c1, rfl, hN⟩
 obtain ⟨n1, hn1⟩ : ∃ n1, n1 = x.n := ⟨_, rfl⟩
 rw [← hn1] at hN ⊢
 have HNE := Lib.hid hn1
 have HO1 := Lib.hid hN.1
 have HF1 : Hid (Fr [] wa w1) := Lib.hid hN.2.1
 have HN1 : Hid (∀ k ∈ bk A1, wa.heap.size ≤ k) := Lib.hid hN.2.2
 clear hN hn1
 have HB0 := Lib.hid (HB0.out.keep HF1.out (by simp))
 have HB1 := Lib.hid (HB1.out.keep HF1.out (by simp))
 clear hc1
 have HCE : Hid (C.set 37 (.slice A1 n1 c1) = (⟨x.k, A1, n1, c1, x.l⟩ : Wce).cells) := Lib.hid (by rw [← HC.out]; unfold Wce.cells; rw [List.set_append_right _ _ (by rw [Wcm.len HX.out.k.h]; decide), Wcm.len HX.out.k.h]; rfl)
 have hb2 : Blk (w1.setCells w.heap.size 37 [.slice A1 n1 c1]) w.heap.size 35 (⟨x.k, A1, n1, c1, x.l⟩ : Wce).cells.toArray := by
  have h := HB0.out.set 37 (.slice A1 n1 c1)
  rw [← HCE.out]
  simpa [World.setCells] using h
 have hfs : Fr [w.heap.size] w1 (w1.setCells w.heap.size 37 [.slice A1 n1 c1]) := Fr.setCells (fun _ => by simp) _ 37 _ (Fr.refl _ _)
 have HFS := Lib.hid hfs
 have HB2 := Lib.hid hb2
 clear hfs hb2
 go_upto_region 2 with (refine wpList_store_at rfl 33 _ _ rfl w.heap.size 37 (.slice A1 n1 c1) rfl rfl rfl 35 _ HB0.out (by rw [List.size_toArray, HCL.out]; decide) HSV.out ?_)
 change Code.wp _ _ _ _ (w1.setCells w.heap.size 37 [.slice A1 n1 c1])
 generalize w1.setCells w.heap.size 37 [.slice A1 n1 c1] = w2 at *
 have HB1 := Lib.hid (HB1.out.keep HFS.out (by simp))
 obtain ⟨E, hE⟩ : ∃ E, E = (⟨x.k, A1, n1, c1, x.l⟩ : Wce).cells := ⟨_, rfl⟩
 have HEL : Hid (E.length = 38) := Lib.hid (by rw [hE]; exact (Wce.len HX.out.k.h))
 have HEO : Hid (E.toArray.all (·.oneCell') = true) := Lib.hid (by rw [hE]; exact all_oneCell_toArray (Wce.one _))
 have HES : Hid ((Tryz.prog.info? 35).map (·.size) = some E.toArray.size) := Lib.hid (by rw [List.size_toArray, HEL.out]; kernel_rfl)
 have HEM : Hid (copyCert_anyZ.size = E.toArray.size) := Lib.hid (by rw [show E.toArray.size = E.length from List.size_toArray, HEL.out]; rfl)
 have HER : Hid (w2.rangeAt w.heap.size 0 E) := Lib.hid (by rw [hE]; exact HB2.out.range)
 go_wp2_with (first | (refine wpList_load_mid rfl 35 _ rfl w.heap.size 0 rfl E _ HER.out Tryz.underlying35 rfl (row_crt.of HEL.out).2 ?_) | (refine wpList_store_blk rfl 35 _ _ rfl (w.heap.size + 1) E.toArray rfl rfl 35 copyCert_anyZ HB1.out HES.out HEM.out HEO.out ?_; intro w9 hb9 hf9))
 refine bodyPost_ret (v := .agg E.toArray) (results_cell_row Tryz.results50 _ _ (w.heap.size + 1) 35 E.toArray _ _ rfl hb9 Tryz.underlying35 rfl HES.out) rfl ?_
 have HS9 : Fr [w.heap.size, w.heap.size + 1] w1 w9 := (HFS.out.mono (by intro k hk _; simp at hk; simp [hk])).trans hf9 (fun k hk _ => by simp at hk; simp [hk])
 refine ⟨⟨x.k, A1, n1, c1, x.l⟩, by rw [hE], rfl, fun S0 h0 => ?_, (HF0.out.and HF1.out (by simp)).go HS9 (by simp)⟩
 have hm : Fr (w.heap.size :: (w.heap.size + 1) :: S0) w1 w9 := HS9.mono (by intro k hk _; simp at hk; rcases hk with rfl | rfl <;> simp)
 have hnk : ∀ k ∈ bk A1, w.heap.size + 2 ≤ k := fun k hk => by have h1 := HN1.out k hk; have h2 := HS2.out; omega
 have hll : x.l.length = n1 := by rw [HNE.out]; exact HX.out.l.1
 exact ⟨HX.out.k, (Lst.of_own (ok := fun (_ : World) (v : Wst) => v.Ok) HO1.out hll (fun u hu => HX.out.l.2.1 u hu)).keep' HS9 (fun hp a ha hm => by have h1 := hnk a.block (by rw [ha]; simp [bk]); simp at hm; omega) (fun _ _ h => h), by rw [HNE.out]; exact HX.out.n, fun hp a ha hm => by have ha : A1 = some a := ha; have h1 := hnk a.block (by rw [ha]; simp [bk]); have h2 := h0 _ hm; omega⟩
def copyOpening_anyZ : Array Value := ((⟨0, none, 0, 0, [], mh0⟩ : Wop)).cells.toArray
set_option maxHeartbeats 2000000 in
theorem copyOpening_any : Copies 53 Wop.cells (fun w S v => v.Ok w S) Wop.con := by
 intro x w hx
 obtain ⟨C, hC⟩ : ∃ C, x.cells = C := ⟨_, rfl⟩
 rw [hC]
 have hcl : C.length = 34 := by rw [← hC]; exact (Wop.len hx.h)
 obtain ⟨wa, hwa⟩ : ∃ wa, wa = (w.alloc (Obj.cells C.toArray 54)).alloc (Obj.cells copyOpening_anyZ 54) := ⟨_, rfl⟩
 have hf0 : Fr [] w wa := by rw [hwa]; exact ((Fr.refl [] w).alloc _).alloc _
 have hb0 : Blk wa w.heap.size 54 C.toArray := by rw [hwa]; exact blk_alloc (Blk.new _ _ _)
 have hb1 : Blk wa (w.heap.size + 1) 54 copyOpening_anyZ := by
  have := Blk.new (w.alloc (Obj.cells C.toArray 54)) 54 copyOpening_anyZ
  rw [hwa]
  simpa using this
 have hc1 : wa.cell? ⟨w.heap.size, 1, none⟩ = some (.slice x.A x.n x.d) := by
  have h := hb0.range (cs := C) 1 (.slice x.A x.n x.d) (by rw [← hC]; rfl)
  simpa using h
 have HX := Lib.hid hx
 have HC := Lib.hid hC
 have HCL := Lib.hid hcl
 have HB0 := Lib.hid hb0
 have HB1 := Lib.hid hb1
 have HF0 := Lib.hid hf0
 have HWA := Lib.hid hwa
 have HS2 : Hid (wa.heap.size = w.heap.size + 2) := Lib.hid (by rw [hwa]; simp)
 have HSV : Hid ((Tryz.prog.info? 52).map (·.size) = some 1) := Lib.hid (by kernel_rfl)
 clear hx hC hcl hb0 hb1 hf0 hwa
 go_enter Tryz.func53, Tryz.ntmps53
 go_upto_region 1 with (fail)
 change Code.wp _ _ _ _ ((w.alloc (Obj.cells C.toArray 54)).alloc (Obj.cells copyOpening_anyZ 54))
 rw [← HWA.out]
 go_wp2_with fail
 refine (clone_any x.A x.n x.d x.p wa (HX.out.p.keep HF0.out (by simp)) (by have := HX.out.n; omega)).mono ?_
 rintro e_ w1 ⟨A1, c1, rfl, hN⟩
 obtain ⟨n1, hn1⟩ : ∃ n1, n1 = x.n := ⟨_, rfl⟩
 rw [← hn1] at hN ⊢
 have HNE := Lib.hid hn1
 have HO1 := Lib.hid hN
 have HF1 : Hid (Fr [] wa w1) := Lib.hid hN.2.1
 have HN1 : Hid (∀ k ∈ bk A1, wa.heap.size ≤ k) := Lib.hid hN.2.2
 clear hN hn1
 have HB0 := Lib.hid (HB0.out.keep HF1.out (by simp))
 have HB1 := Lib.hid (HB1.out.keep HF1.out (by simp))
 clear hc1
 have HCE : Hid (C.set 1 (.slice A1 n1 c1) = (⟨x.i, A1, n1, c1, x.p, x.h⟩ : Wop).cells) := Lib.hid (by rw [← HC.out]; rfl)
 have hb2 : Blk (w1.setCells w.heap.size 1 [.slice A1 n1 c1]) w.heap.size 54 (⟨x.i, A1, n1, c1, x.p, x.h⟩ : Wop).cells.toArray := by
  have h := HB0.out.set 1 (.slice A1 n1 c1)
  rw [← HCE.out]
  simpa [World.setCells] using h
 have hfs : Fr [w.heap.size] w1 (w1.setCells w.heap.size 1 [.slice A1 n1 c1]) := Fr.setCells (fun _ => by simp) _ 1 _ (Fr.refl _ _)
 have HFS := Lib.hid hfs
 have HB2 := Lib.hid hb2
 clear hfs hb2
 go_upto_region 2 with (refine wpList_store_at rfl 52 _ _ rfl w.heap.size 1 (.slice A1 n1 c1) rfl rfl rfl 54 _ HB0.out (by rw [List.size_toArray, HCL.out]; decide) HSV.out ?_)
 change Code.wp _ _ _ _ (w1.setCells w.heap.size 1 [.slice A1 n1 c1])
 generalize w1.setCells w.heap.size 1 [.slice A1 n1 c1] = w2 at *
 have HB1 := Lib.hid (HB1.out.keep HFS.out (by simp))
 obtain ⟨E, hE⟩ : ∃ E, E = (⟨x.i, A1, n1, c1, x.p, x.h⟩ : Wop).cells := ⟨_, rfl⟩
 have HEL : Hid (E.length = 34) := Lib.hid (by rw [hE]; exact (Wop.len HX.out.h))
 have HEO : Hid (E.toArray.all (·.oneCell') = true) := Lib.hid (by rw [hE]; exact all_oneCell_toArray (Wop.one _))
 have HES : Hid ((Tryz.prog.info? 54).map (·.size) = some E.toArray.size) := Lib.hid (by rw [List.size_toArray, HEL.out]; kernel_rfl)
 have HEM : Hid (copyOpening_anyZ.size = E.toArray.size) := Lib.hid (by rw [show E.toArray.size = E.length from List.size_toArray, HEL.out]; rfl)
 have HER : Hid (w2.rangeAt w.heap.size 0 E) := Lib.hid (by rw [hE]; exact HB2.out.range)
 go_wp2_with (first | (refine wpList_load_mid rfl 54 _ rfl w.heap.size 0 rfl E _ HER.out Tryz.underlying54 rfl (row_opn.of HEL.out).2 ?_) | (refine wpList_store_blk rfl 54 _ _ rfl (w.heap.size + 1) E.toArray rfl rfl 54 copyOpening_anyZ HB1.out HES.out HEM.out HEO.out ?_; intro w9 hb9 hf9))
 refine bodyPost_ret (v := .agg E.toArray) (results_cell_row Tryz.results53 _ _ (w.heap.size + 1) 54 E.toArray _ _ rfl hb9 Tryz.underlying54 rfl HES.out) rfl ?_
 have HS9 : Fr [w.heap.size, w.heap.size + 1] w1 w9 := (HFS.out.mono (by intro k hk _; simp at hk; simp [hk])).trans hf9 (fun k hk _ => by simp at hk; simp [hk])
 refine ⟨⟨x.i, A1, n1, c1, x.p, x.h⟩, by rw [hE], rfl, fun S0 h0 => ?_, (HF0.out.and HF1.out (by simp)).go HS9 (by simp)⟩
 have hm : Fr (w.heap.size :: (w.heap.size + 1) :: S0) w1 w9 := HS9.mono (by intro k hk _; simp at hk; rcases hk with rfl | rfl <;> simp)
 have hnk : ∀ k ∈ bk A1, w.heap.size + 2 ≤ k := fun k hk => by have h1 := HN1.out k hk; have h2 := HS2.out; omega
 exact ⟨HX.out.i, HO1.out.by.keep HS9 (fun a ha hm => by have h1 := hnk a.block (by rw [ha]; simp [bk]); simp at hm; omega), by rw [HNE.out]; exact HX.out.n, fun k hk hm => by have h1 := hnk k hk; have h2 := h0 k hm; omega, fun k hk => Nat.lt_of_lt_of_le (HO1.out.lt k hk) HS9.size, HX.out.h, HO1.out.cap⟩
end Go.Proofs.YtpcnedpheplofaaGreat

namespace Go.Proofs.YtpcnedpheplofaaGreat
open Go.RowKit
set_option maxRecDepth 100000
theorem exec_eql {P : Program} {ev : Operand → Value} {o : Oper} {w : World} (ty r : TypeId) (x y : Operand) (ho : o.op = .binOp .eql ty x y r) (C D : Array Value) (hx : ev x = .agg C) (hy : ev y = .agg D) (b : Bool)
  (hg : P.eqGuardType P.depth ty = false) (hq : (Op.equalIn 10000 ty (.agg C) (.agg D)).run P w = .ok b w) : (execOp ev o).run P w = .ok (.value (.bool b)) w := by
 have hq' : (Op.equal ty (.agg C) (.agg D)).run P w = .ok b w := hq
 unfold execOp
 simp only [ho, hx, hy]
 simp [eqGuard, binOp, hg, hq', Result.andThen]
theorem exec_neq {P : Program} {ev : Operand → Value} {o : Oper} {w : World} (ty r : TypeId) (x y : Operand) (ho : o.op = .binOp .neq ty x y r) (C D : Array Value) (hx : ev x = .agg C) (hy : ev y = .agg D) (b : Bool)
  (hg : P.eqGuardType P.depth ty = false) (hq : (Op.equalIn 10000 ty (.agg C) (.agg D)).run P w = .ok b w) : (execOp ev o).run P w = .ok (.value (.bool (!b))) w := by
 have hq' : (Op.equal ty (.agg C) (.agg D)).run P w = .ok b w := hq
 unfold execOp
 simp only [ho, hx, hy]
 simp [eqGuard, binOp, hg, hq', Result.andThen]
theorem neq_at {P : Program} {l : List Oper} {Q : Exit → Act → World → Prop} {md : Region.Mode} {S : World → Prop} {fuel : Nat} {listed : Array Bool} {a : Act} {w : World}
  {i : Nat} {oi : Oper} (hi : nthOp l i = some oi) (ht : takeOk md l.toArray listed i = true) (hw : Region.wanted oi (yielded l.toArray a.tmps) = true)
  (ty r : TypeId) (x y : Operand) (ho : oi.op = .binOp .neq ty x y r) (C D : Array Value) (hx : a.eval x = .agg C) (hy : a.eval y = .agg D) (b : Bool) (hg : P.eqGuardType P.depth ty = false)
  (hq : ∀ w, (Op.equalIn 10000 ty (.agg C) (.agg D)).run P w = .ok b w)
  (hQ : ∀ c a w, Q (.panic c) (a.put oi.dst (.bool (!b))) w → Q (.panic c) a w) (hS : S w)
  (h : wpAnyH P md l.toArray Q S fuel (listed.setIfInBounds i true) (a.put oi.dst (.bool (!b))) w) : wpAnyH P md l.toArray Q S (fuel + 1) listed a w :=
 run_at hi ht hw hQ hS (fun _ _ => exec_neq ty r x y ho C D hx hy b hg (hq _)) h
end Go.Proofs.YtpcnedpheplofaaGreat

namespace Go.Proofs.YtpcnedpheplofaaGreat
open Go.RowKit
set_option maxRecDepth 100000
theorem eqFields_bool {P : Program} {d : Nat} {xs ys : Array Value} {f : Field} {fs : List Field} {u v : Value} {b : Bool} {w : World} (hn : f.name ≠ "_") (p : (part f.type xs f.offset).run P w = .ok u w) (p' : (part f.type ys f.offset).run P w = .ok v w)
  (q : (Op.equalIn d f.type u v).run P w = .ok b w) : (Op.eqFields d xs ys (f :: fs)).run P w = if b then (Op.eqFields d xs ys fs).run P w else .ok false w := by
 rw [Op.eqFields, if_pos hn]
 simp only [Sem.run_bind, p, p', Result.andThen_ok, q]
 cases b <;> simp
def FieldsEq (P : Program) (w : World) (d : Nat) (C D : Array Value) : List (TypeId × Nat) → List Bool → Prop
 | [], [] => True
 | (t, o) :: fs, b :: bs => (∃ u v, (part t C o).run P w = .ok u w ∧ (part t D o).run P w = .ok v w ∧ (Op.equalIn d t u v).run P w = .ok b w) ∧ FieldsEq P w d C D fs bs
 | _, _ => False
theorem eqFields_all {P : Program} {w : World} {d : Nat} {C D : Array Value} : ∀ (fs : List Field) (l : List (TypeId × Nat)) (bs : List Bool), fs.map (fun f => (f.type, f.offset, f.name == "_")) = l.map (fun x => (x.1, x.2, false)) →
  FieldsEq P w d C D l bs → (Op.eqFields d C D fs).run P w = .ok (bs.all id) w
 | [], [], [], _, _ => rfl
 | [], [], _ :: _, _, h => h.elim
 | [], _ :: _, _, h, _ => by simp at h
 | _ :: _, [], _, h, _ => by simp at h
 | _ :: _, _ :: _, [], _, h => h.elim
 | f :: fs, (t, o) :: l, b :: bs, h, hb => by
   simp only [List.map_cons, List.cons.injEq, Prod.mk.injEq, beq_eq_false_iff_ne] at h
   obtain ⟨⟨rfl, rfl, hn⟩, h⟩ := h
   obtain ⟨⟨u, v, p, p', q⟩, hr⟩ := hb
   rw [eqFields_bool hn p p' q, eqFields_all fs l bs h hr]
   cases b <;> simp
theorem part_rowx (ty : TypeId) (n off : Nat) (xs ys zs : List Value) (h : RowTy Tryz.prog ty n) (hx : xs.length = off) (hy : ys.length = n) (w : World) : (part ty (xs ++ (ys ++ zs)).toArray off).run Tryz.prog w = .ok (.agg ys.toArray) w := by
 obtain ⟨h1, h2⟩ := h
 cases hu : Tryz.prog.underlying ty with
 | none => rw [hu] at h1; cases h1
 | some d =>
   rw [hu] at h1
   cases hi : Tryz.prog.info? ty with
   | none => rw [hi] at h2; cases h2
   | some i =>
     have hs : i.size = n := by simpa [hi] using h2
     have hagg : (isAgg ty).run Tryz.prog w = .ok true w := by
      unfold isAgg
      rw [Sem.run_bind, run_underlying hu w]
      cases d <;> simp_all
     unfold part
     simp [hagg, sizeOf, typeInfo, hi, hs]
     subst hx
     subst hy
     simp
theorem eql_hash (a b : List UInt8) (ha : a.length = 32) (hb : b.length = 32) (d : Nat) (w : World) : (Op.equalIn (d + 2) 25 (.agg (a.map by8).toArray) (.agg (b.map by8).toArray)).run Tryz.prog w = .ok (decide (a = b)) w := by
 have h := run_equalIn_bytes (P := Tryz.prog) w d 25 5 32 Tryz.underlying25 Tryz.underlying5 u8_size1 a b ha hb
 rw [show decide (a = b) = (a == b) by rw [Bool.eq_iff_iff]; simp]
 exact h
theorem eql_int (y z : Int) (d : Nat) (w : World) : (Op.equalIn (d + 1) 3 (.int .i64 y) (.int .i64 z)).run Tryz.prog w = .ok (decide (y = z)) w := by
 have h := run_equalIn_int (P := Tryz.prog) w d 3 .i64 .i64 y z Tryz.underlying3
 rw [show decide (y = z) = (y == z) by rw [Bool.eq_iff_iff]; simp]
 exact h
theorem eql_u64 (y z : Int) (d : Nat) (w : World) : (Op.equalIn (d + 1) 30 (.int .u64 y) (.int .u64 z)).run Tryz.prog w = .ok (decide (y = z)) w := by
 have h := run_equalIn_int (P := Tryz.prog) w d 30 .u64 .u64 y z Tryz.underlying30
 rw [show decide (y = z) = (y == z) by rw [Bool.eq_iff_iff]; simp]
 exact h
theorem part_int (off : Nat) (cs : Array Value) (v : Value) (hv : cs[off]? = some v) (w : World) : (part 3 cs off).run Tryz.prog w = .ok v w := run_part_plain w (by kernel_rfl) hv
theorem part_u64 (off : Nat) (cs : Array Value) (v : Value) (hv : cs[off]? = some v) (w : World) : (part 30 cs off).run Tryz.prog w = .ok v w := run_part_plain w (by kernel_rfl) hv
theorem eql_of {ty : TypeId} {d : Nat} {C D : Array Value} {w : World} {l : List (TypeId × Nat)} {bs : List Bool} (e : (Op.equalIn (d + 1) ty (.agg C) (.agg D)).run Tryz.prog w = (Op.eqFields d C D (Tryz.prog.fieldsOf ty).toList).run Tryz.prog w)
  (hfs : (Tryz.prog.fieldsOf ty).toList.map (fun f => (f.type, f.offset, f.name == "_")) = l.map (fun x => (x.1, x.2, false))) (hb : FieldsEq Tryz.prog w d C D l bs) : (Op.equalIn (d + 1) ty (.agg C) (.agg D)).run Tryz.prog w = .ok (bs.all id) w := by
 rw [e]
 exact eqFields_all _ l bs hfs hb
theorem eql_name (a b a' b' : Int) (d : Nat) (w : World) : (Op.equalIn (d + 2) 23 (.agg #[.int .i64 a, .int .i64 b]) (.agg #[.int .i64 a', .int .i64 b'])).run Tryz.prog w = .ok (decide (a = a') && decide (b = b')) w := by
 have h := eql_of (l := [(3, 0), (3, 1)]) (run_equalIn_struct w (d + 1) 23 #[.int .i64 a, .int .i64 b] #[.int .i64 a', .int .i64 b'] (by kernel_rfl) (by kernel_rfl)) (by kernel_rfl)
  (bs := [decide (a = a'), decide (b = b')]) ⟨⟨_, _, part_int 0 _ _ rfl w, part_int 0 _ _ rfl w, eql_int a a' d w⟩, ⟨_, _, part_int 1 _ _ rfl w, part_int 1 _ _ rfl w, eql_int b b' d w⟩, trivial⟩
 rw [h]
 simp
theorem eql_sig (a b a' b' : Int) (d : Nat) (w : World) : (Op.equalIn (d + 2) 27 (.agg #[.int .i64 a, .int .i64 b]) (.agg #[.int .i64 a', .int .i64 b'])).run Tryz.prog w = .ok (decide (a = a') && decide (b = b')) w := by
 have h := eql_of (l := [(3, 0), (3, 1)]) (run_equalIn_struct w (d + 1) 27 #[.int .i64 a, .int .i64 b] #[.int .i64 a', .int .i64 b'] (by kernel_rfl) (by kernel_rfl)) (by kernel_rfl)
  (bs := [decide (a = a'), decide (b = b')]) ⟨⟨_, _, part_int 0 _ _ rfl w, part_int 0 _ _ rfl w, eql_int a a' d w⟩, ⟨_, _, part_int 1 _ _ rfl w, part_int 1 _ _ rfl w, eql_int b b' d w⟩, trivial⟩
 rw [h]
 simp
def Wst.eqB (x y : Wst) : Bool := [decide (x.r = y.r), (decide (x.c = y.c) && decide (x.s = y.s)), decide (x.h = y.h), decide ((x.t : Int) = (y.t : Int)), (decide (x.b = y.b) && decide (x.m = y.m))].all id
theorem Wst.eqB_iff (x y : Wst) : x.eqB y = true ↔ x = y := by
 obtain ⟨_, _, _, _, _, _, _⟩ := x
 obtain ⟨_, _, _, _, _, _, _⟩ := y
 simp [Wst.eqB, Wst.mk.injEq, and_assoc]
 (try omega)
set_option maxHeartbeats 1000000 in
theorem eql_Wst (x y : Wst) (hx : x.h.length = 32) (hy : y.h.length = 32) (w : World) : (Op.equalIn 10000 32 (.agg x.cells.toArray) (.agg y.cells.toArray)).run Tryz.prog w = .ok (x.eqB y) w :=
 eql_of (d := 9999) (C := x.cells.toArray) (D := y.cells.toArray) (l := [(3, 0), (23, 1), (25, 3), (30, 35), (27, 36)]) (run_equalIn_struct w 9999 32 x.cells.toArray y.cells.toArray (by kernel_rfl) (by kernel_rfl)) (by kernel_rfl)
  (bs := [decide (x.r = y.r), (decide (x.c = y.c) && decide (x.s = y.s)), decide (x.h = y.h), decide ((x.t : Int) = (y.t : Int)), (decide (x.b = y.b) && decide (x.m = y.m))])
  ⟨⟨_, _, part_int 0 _ _ (show x.cells.toArray[0]? = some (.int .i64 x.r) from rfl) w, part_int 0 _ _ (show y.cells.toArray[0]? = some (.int .i64 y.r) from rfl) w, eql_int _ _ 9998 w⟩,
   ⟨_, _, (part_rowx 23 2 1 [.int .i64 x.r] [.int .i64 x.c, .int .i64 x.s] ([] ++ (x.h.map by8 ++ [.int .u64 (x.t : Int), .int .i64 x.b, .int .i64 x.m])) row_name rfl rfl w), (part_rowx 23 2 1 [.int .i64 y.r] [.int .i64 y.c, .int .i64 y.s] ([] ++ (y.h.map by8 ++ [.int .u64 (y.t : Int), .int .i64 y.b, .int .i64 y.m])) row_name rfl rfl w), eql_name _ _ _ _ 9997 w⟩,
   ⟨_, _, (part_rowx 25 32 3 [.int .i64 x.r, .int .i64 x.c, .int .i64 x.s] (x.h.map by8) [.int .u64 (x.t : Int), .int .i64 x.b, .int .i64 x.m] row_hash rfl (by rw [List.length_map]; exact hx) w), (part_rowx 25 32 3 [.int .i64 y.r, .int .i64 y.c, .int .i64 y.s] (y.h.map by8) [.int .u64 (y.t : Int), .int .i64 y.b, .int .i64 y.m] row_hash rfl (by rw [List.length_map]; exact hy) w), eql_hash x.h y.h hx hy 9997 w⟩,
   ⟨_, _, part_u64 35 _ _ (show x.cells.toArray[35]? = some (.int .u64 (x.t : Int)) by rw [List.getElem?_toArray]; exact post_cell [.int .i64 x.r, .int .i64 x.c, .int .i64 x.s] (x.h.map by8) [.int .u64 (x.t : Int), .int .i64 x.b, .int .i64 x.m] (by rw [List.length_map]; exact hx) 0 rfl) w, part_u64 35 _ _ (show y.cells.toArray[35]? = some (.int .u64 (y.t : Int)) by rw [List.getElem?_toArray]; exact post_cell [.int .i64 y.r, .int .i64 y.c, .int .i64 y.s] (y.h.map by8) [.int .u64 (y.t : Int), .int .i64 y.b, .int .i64 y.m] (by rw [List.length_map]; exact hy) 0 rfl) w, eql_u64 _ _ 9998 w⟩,
   ⟨_, _, (show (part 27 x.cells.toArray 36).run Tryz.prog w = .ok (.agg [.int .i64 x.b, .int .i64 x.m].toArray) w by rw [show x.cells = ([.int .i64 x.r, .int .i64 x.c, .int .i64 x.s] ++ (x.h.map by8 ++ [.int .u64 (x.t : Int)])) ++ ([.int .i64 x.b, .int .i64 x.m] ++ []) by simp [Wst.cells]]; exact part_rowx 27 2 36 _ _ _ row_sig (by simp [hx]) rfl w), (show (part 27 y.cells.toArray 36).run Tryz.prog w = .ok (.agg [.int .i64 y.b, .int .i64 y.m].toArray) w by rw [show y.cells = ([.int .i64 y.r, .int .i64 y.c, .int .i64 y.s] ++ (y.h.map by8 ++ [.int .u64 (y.t : Int)])) ++ ([.int .i64 y.b, .int .i64 y.m] ++ []) by simp [Wst.cells]]; exact part_rowx 27 2 36 _ _ _ row_sig (by simp [hy]) rfl w), eql_sig _ _ _ _ 9997 w⟩, trivial⟩
def Wvt.eqB (x y : Wvt) : Bool := [decide (x.k = y.k), decide (x.e = y.e), decide (x.r = y.r), decide (x.p = y.p), decide (x.h = y.h), (decide (x.b = y.b) && decide (x.m = y.m))].all id
theorem Wvt.eqB_iff (x y : Wvt) : x.eqB y = true ↔ x = y := by
 obtain ⟨_, _, _, _, _, _, _⟩ := x
 obtain ⟨_, _, _, _, _, _, _⟩ := y
 simp [Wvt.eqB, Wvt.mk.injEq, and_assoc]
 (try omega)
set_option maxHeartbeats 1000000 in
theorem eql_Wvt (x y : Wvt) (hx : x.h.length = 32) (hy : y.h.length = 32) (w : World) : (Op.equalIn 10000 49 (.agg x.cells.toArray) (.agg y.cells.toArray)).run Tryz.prog w = .ok (x.eqB y) w :=
 eql_of (d := 9999) (C := x.cells.toArray) (D := y.cells.toArray) (l := [(3, 0), (3, 1), (3, 2), (3, 3), (25, 4), (27, 36)]) (run_equalIn_struct w 9999 49 x.cells.toArray y.cells.toArray (by kernel_rfl) (by kernel_rfl)) (by kernel_rfl)
  (bs := [decide (x.k = y.k), decide (x.e = y.e), decide (x.r = y.r), decide (x.p = y.p), decide (x.h = y.h), (decide (x.b = y.b) && decide (x.m = y.m))])
  ⟨⟨_, _, part_int 0 _ _ (show x.cells.toArray[0]? = some (.int .i64 x.k) from rfl) w, part_int 0 _ _ (show y.cells.toArray[0]? = some (.int .i64 y.k) from rfl) w, eql_int _ _ 9998 w⟩,
   ⟨_, _, part_int 1 _ _ (show x.cells.toArray[1]? = some (.int .i64 x.e) from rfl) w, part_int 1 _ _ (show y.cells.toArray[1]? = some (.int .i64 y.e) from rfl) w, eql_int _ _ 9998 w⟩,
   ⟨_, _, part_int 2 _ _ (show x.cells.toArray[2]? = some (.int .i64 x.r) from rfl) w, part_int 2 _ _ (show y.cells.toArray[2]? = some (.int .i64 y.r) from rfl) w, eql_int _ _ 9998 w⟩,
   ⟨_, _, part_int 3 _ _ (show x.cells.toArray[3]? = some (.int .i64 x.p) from rfl) w, part_int 3 _ _ (show y.cells.toArray[3]? = some (.int .i64 y.p) from rfl) w, eql_int _ _ 9998 w⟩,
   ⟨_, _, (part_rowx 25 32 4 [.int .i64 x.k, .int .i64 x.e, .int .i64 x.r, .int .i64 x.p] (x.h.map by8) [.int .i64 x.b, .int .i64 x.m] row_hash rfl (by rw [List.length_map]; exact hx) w), (part_rowx 25 32 4 [.int .i64 y.k, .int .i64 y.e, .int .i64 y.r, .int .i64 y.p] (y.h.map by8) [.int .i64 y.b, .int .i64 y.m] row_hash rfl (by rw [List.length_map]; exact hy) w), eql_hash x.h y.h hx hy 9997 w⟩,
   ⟨_, _, (show (part 27 x.cells.toArray 36).run Tryz.prog w = .ok (.agg [.int .i64 x.b, .int .i64 x.m].toArray) w by rw [show x.cells = ([.int .i64 x.k, .int .i64 x.e, .int .i64 x.r, .int .i64 x.p] ++ (x.h.map by8 ++ [])) ++ ([.int .i64 x.b, .int .i64 x.m] ++ []) by simp [Wvt.cells]]; exact part_rowx 27 2 36 _ _ _ row_sig (by simp [hx]) rfl w), (show (part 27 y.cells.toArray 36).run Tryz.prog w = .ok (.agg [.int .i64 y.b, .int .i64 y.m].toArray) w by rw [show y.cells = ([.int .i64 y.k, .int .i64 y.e, .int .i64 y.r, .int .i64 y.p] ++ (y.h.map by8 ++ [])) ++ ([.int .i64 y.b, .int .i64 y.m] ++ []) by simp [Wvt.cells]]; exact part_rowx 27 2 36 _ _ _ row_sig (by simp [hy]) rfl w), eql_sig _ _ _ _ 9997 w⟩, trivial⟩
def Wdn.eqB (x y : Wdn) : Bool := [decide (x.r = y.r), decide (x.i = y.i), (decide (x.b = y.b) && decide (x.m = y.m))].all id
theorem Wdn.eqB_iff (x y : Wdn) : x.eqB y = true ↔ x = y := by
 obtain ⟨_, _, _, _⟩ := x
 obtain ⟨_, _, _, _⟩ := y
 simp [Wdn.eqB, Wdn.mk.injEq, and_assoc]
 (try omega)
set_option maxHeartbeats 1000000 in
theorem eql_Wdn (x y : Wdn) (w : World) : (Op.equalIn 10000 56 (.agg x.cells.toArray) (.agg y.cells.toArray)).run Tryz.prog w = .ok (x.eqB y) w :=
 eql_of (d := 9999) (C := x.cells.toArray) (D := y.cells.toArray) (l := [(3, 0), (3, 1), (27, 2)]) (run_equalIn_struct w 9999 56 x.cells.toArray y.cells.toArray (by kernel_rfl) (by kernel_rfl)) (by kernel_rfl)
  (bs := [decide (x.r = y.r), decide (x.i = y.i), (decide (x.b = y.b) && decide (x.m = y.m))])
  ⟨⟨_, _, part_int 0 _ _ (show x.cells.toArray[0]? = some (.int .i64 x.r) from rfl) w, part_int 0 _ _ (show y.cells.toArray[0]? = some (.int .i64 y.r) from rfl) w, eql_int _ _ 9998 w⟩,
   ⟨_, _, part_int 1 _ _ (show x.cells.toArray[1]? = some (.int .i64 x.i) from rfl) w, part_int 1 _ _ (show y.cells.toArray[1]? = some (.int .i64 y.i) from rfl) w, eql_int _ _ 9998 w⟩,
   ⟨_, _, (part_rowx 27 2 2 [.int .i64 x.r, .int .i64 x.i] [.int .i64 x.b, .int .i64 x.m] [] row_sig rfl rfl w), (part_rowx 27 2 2 [.int .i64 y.r, .int .i64 y.i] [.int .i64 y.b, .int .i64 y.m] [] row_sig rfl rfl w), eql_sig _ _ _ _ 9997 w⟩, trivial⟩
end Go.Proofs.YtpcnedpheplofaaGreat

namespace Go.Proofs.YtpcnedpheplofaaGreat
open Go.RowKit
set_option maxRecDepth 100000
theorem add_off (g o j : Nat) : (⟨g, o, none⟩ : Addr).add j = ⟨g, o + j, none⟩ := by unfold Addr.add; split <;> simp_all
theorem wpList_eqlg {P : Program} {ops : Array Oper} {rest : List Oper} {op : Oper} {a : Act} {w : World} {Q : Exit → Act → World → Prop} (hw : Region.wanted op (yielded ops a.tmps) = true) (ty r : TypeId) (x y : Operand) (ho : op.op = .binOp .eql ty x y r) (C D : Array Value) (hx : a.eval x = .agg C) (hy : a.eval y = .agg D) (b : Bool)
  (hg : P.eqGuardType P.depth ty = false) (hq : (Op.equalIn 10000 ty (.agg C) (.agg D)).run P w = .ok b w) (h : wpList P ops Q rest (a.put op.dst (.bool b)) w) : wpList P ops Q (op :: rest) a w :=
 BigFrame.wpList_want hw fun _ hK => wp_run (exec_eql ty r x y ho C D hx hy b hg hq) (hK _ _ h)
theorem wpList_midg {P : Program} {ops : Array Oper} {rest : List Oper} {op : Oper} {a : Act} {w : World} {Q : Exit → Act → World → Prop} (hw : Region.wanted op (yielded ops a.tmps) = true) (ty : TypeId) (x : Operand) (ho : op.op = .load ty x)
  (b o : Nat) (hx : a.eval x = .pointer (some ⟨b, o, none⟩)) (cs : List Value) (hc : w.rangeAt b o cs) (hr : RowTy P ty cs.length) (h : wpList P ops Q rest (a.put op.dst (.agg cs.toArray)) w) : wpList P ops Q (op :: rest) a w :=
 wpList_cells hw ty x ho ⟨b, o, none⟩ hx cs (fun j v hv => by rw [add_off]; exact hc j v hv) hr h
section
variable {P : Program} {l : List Oper} {Q : Exit → Act → World → Prop} {md : Region.Mode} {S : World → Prop} {fuel : Nat} {listed : Array Bool} {a : Act} {w : World}
theorem crow_at {i : Nat} {oi : Oper} (hi : nthOp l i = some oi) (ht : takeOk md l.toArray listed i = true) (hw : Region.wanted oi (yielded l.toArray a.tmps) = true)
  (ty : TypeId) (x : Operand) (ho : oi.op = .load ty x) (ad : Addr) (hx : a.eval x = .pointer (some ad)) (cs : List Value) (hc : ∀ w1, S w1 → ∀ j v, cs[j]? = some v → w1.cell? (ad.add j) = some v) (hr : RowTy P ty cs.length)
  (hQ : ∀ c a w, Q (.panic c) (a.put oi.dst (.agg cs.toArray)) w → Q (.panic c) a w) (hS : S w)
  (h : wpAnyH P md l.toArray Q S fuel (listed.setIfInBounds i true) (a.put oi.dst (.agg cs.toArray)) w) : wpAnyH P md l.toArray Q S (fuel + 1) listed a w :=
 take_at hi ht hQ (.inl ⟨hw, fun w1 h1 => exec_cells ty x ho ad hx cs hr (hc w1 h1)⟩) hS h
end
theorem row_hs : RowTy Tryz.prog 25 32 := ⟨by kernel_rfl, by kernel_rfl⟩
theorem row_opS : RowTy Tryz.prog 54 34 := ⟨by kernel_rfl, by kernel_rfl⟩
theorem row_dnS : RowTy Tryz.prog 56 4 := ⟨by kernel_rfl, by kernel_rfl⟩
theorem fld_add (ad : Addr) (m j : Nat) : (ad.add m).add (j + 1) = ⟨(ad.add m).block, (ad.add m).off + (j + 1), none⟩ := rfl
end Go.Proofs.YtpcnedpheplofaaGreat

namespace Go.Proofs.YtpcnedpheplofaaGreat
open Go.RowKit
set_option maxRecDepth 100000
theorem el_promiseC : ElTy Tryz.prog 40 6 64 := ElTy.of (by kernel_rfl)
set_option maxHeartbeats 4000000 in
theorem copyCerts_any (hf : Copies 50 Wce.cells (fun w S v => v.Ok w S) Wce.con) (A : Option Addr) (n c : Nat) (l : List Wce) (w : World) (hl : Lst 38 Wce.cells (fun w v => v.Ok w []) w A n l) (hn : n ≤ 100) :
  Calls Tryz.prog 98 #[.slice A n c, fnV 50] w fun e w' => ∃ (A' : Option Addr) (c' : Nat) (ys : List Wce), e = .returned (.slice A' n c') ∧ GotL 35 38 Wce.cells (fun w S v => v.Ok w S) Wce.con w w' A' n c' ys (l.map Wce.con) ∧ Fr [] w w' := by
 have HL := Lib.hid hl
 have HCP := Lib.hid hf
 have HN := Lib.hid hn
 have hn1 : n ≤ 100 := hn
 clear hl hf hn
 unfold fnV
 go_enter Tryz.func98, Tryz.ntmps98
 go_wp2_with fail
 go_loopw [5, 10] (fun sl i wr => ∃ (k : Nat) (A4 : Option Addr) (c4 : Nat) (ys : List Wce), k ≤ n ∧ i = .int .i64 k ∧ sl = .slice A4 k c4 ∧ ys.length = k ∧ Hid (ys.map Wce.con = (l.take k).map Wce.con) ∧ Hid (wr.ownsRow 0 35 38 (.slice A4 k c4) k (ys.flatMap Wce.cells)) ∧ Hid (∀ q ∈ bk A4, w.heap.size ≤ q) ∧ Hid (∀ y ∈ ys, ∀ S0 : List Nat, (∀ q ∈ S0, q < w.heap.size ∨ q ∈ bk A4) → y.Ok wr S0) ∧ Hid (Fr [] w wr)) (fun _ i _ => n - (intOf i).toNat)
 case atStart => exact ⟨0, none, 0, [], by omega, rfl, rfl, rfl, Lib.hid rfl, Lib.hid ⟨by simp, .inl ⟨rfl, rfl⟩⟩, Lib.hid (by simp [bk]), Lib.hid (by simp), Lib.hid (Fr.refl _ _)⟩
 case round =>
  obtain ⟨k, A4, c4, ys, hk, rfl, rfl, hyl, HCN, HO, HNA, HYS, HF⟩ := hrel
  by_cases hlt : k < n
  · have HKN : Hid (k < n) := Lib.hid hlt
    have hk0 : (0 : Int) ≤ k := by omega
    obtain ⟨ad, v, hA, hv, hcl, hok, hcells⟩ := HL.out.at (i := k) hlt
    subst hA
    have HV := Lib.hid hv
    obtain ⟨CV, hCV⟩ : ∃ CV, Wce.cells v = CV := ⟨_, rfl⟩
    rw [hCV] at hcells hcl
    have HCELLS : Hid (∀ j u, CV[j]? = some u → wr.cell? ((ad.add (k * 38)).add j) = some u) := Lib.hid (fun j u hj => HF.out.cell (hcells j u hj) (by simp))
    have HCLN := Lib.hid hcl
    have HIN : Hid (v.Ok wr []) := Lib.hid (hok.keep HF.out (by simp))
    have HCV := Lib.hid hCV
    have HSZ0 : Hid ((Tryz.prog.info? 35).map (·.size) = some CV.toArray.size) := Lib.hid (by rw [List.size_toArray, HCLN.out]; kernel_rfl)
    have HCS : Hid (CV.toArray.size = 38) := Lib.hid (by rw [List.size_toArray]; exact HCLN.out)
    have HONE : Hid (CV.toArray.all (·.oneCell') = true) := Lib.hid (by rw [← hCV]; exact all_oneCell_toArray (Wce.one v))
    clear hcells hcl hok hv hCV
    go_wp2_with (first
     | (refine wpList_cells rfl 35 _ rfl _ rfl CV HCELLS.out (row_crt.of HCLN.out) ?_)
     | (refine wpList_store_blk rfl 35 _ _ rfl wr.heap.size CV.toArray rfl rfl 35 _ (Blk.new wr _ _) HSZ0.out (by rw [HCS.out]; rfl) HONE.out ?_; intro w2 hb2 hf2)
     | (refine wpList_load_mid rfl 35 _ rfl wr.heap.size 0 rfl CV _ hb2.range Tryz.underlying35 rfl (row_crt.of HCLN.out).2 ?_))
    have HF2 : Hid (Fr [] wr w2) := Lib.hid (((Fr.refl [] wr).alloc _).go hf2 (by simp))
    clear hb2 hf2
    have hcc := HCP.out v w2 (HIN.out.keep HF2.out (by simp))
    rw [HCV.out] at hcc
    refine hcc.mono ?_
    rintro e_ w4 ⟨y, rfl, hyc, hyok, hf4⟩
    clear hcc
    have HYC := Lib.hid hyc
    have HF4 : Hid (Fr [] wr w4) := Lib.hid (HF2.out.and hf4 (by simp))
    have HNW : Hid (∀ S0 : List Nat, (∀ q ∈ S0, q < w.heap.size ∨ q ∈ bk A4) → y.Ok w4 S0) := Lib.hid (fun S0 h0 => hyok S0 (fun q hq => by
     have h1 := HF.out.size
     have h2 := HF2.out.size
     rcases h0 q hq with h | h
     · omega
     · have h3 := own_lt HO.out q ((bk_mem A4 k c4 q).2 h); omega))
    have hD : (Wce.cells y).length = 38 := Wce.len (hyok [] (by simp)).k.h
    have hD1 := Wce.one y
    have HO4 := Lib.hid (own_keep HO.out HF4.out (by simp))
    obtain ⟨D, hDY⟩ : ∃ D, D = Wce.cells y := ⟨_, rfl⟩
    rw [← hDY] at hD hD1 ⊢
    have HD := Lib.hid hD
    have HD1 := Lib.hid hD1
    have HDY := Lib.hid hDY
    clear hyc hyok hf4 hD hD1 hDY hlt
    go_wp2_with (first | (refine wpList_build_one rfl 38 35 _ rfl Tryz.underlying38 D 96 (by rw [HD.out]; exact el_cert) rfl (by rw [HD.out]; decide) (by rw [HD.out]; decide) ?_) | (at_builtin; refine Stop.mk ?_))
    refine Stop.go ?_
    refine wpList_append_one2 rfl _ _ 38 35 rfl Tryz.underlying38 38 96 el_cert (by decide) 0 (.slice A4 k c4) k _ D rfl (HO4.out.alloc _) (Nat.zero_le _) HD.out HD1.out w4.heap.size 35 rfl (Blk.new _ _ _) (by have := HN.out; omega) (by decide) ?_
    intro A9 c9 w9 ho9 hf9 hb9
    have HO9 := Lib.hid ho9
    have HF9 : Hid (Fr (bk A4) w4 w9) := Lib.hid (by
     have h : Fr (bk A4) (w4.alloc (Obj.cells D.toArray 35)) w9 := by rw [← bk_own A4 k c4]; exact hf9
     exact (((Fr.refl [] w4).alloc _).mono (by simp)).trans h (fun y hy _ => hy))
    have HB9 : Hid (∀ q ∈ bk A9, q ∈ bk A4 ∨ w4.heap.size ≤ q) := Lib.hid (by
     intro q hq
     rw [← bk_own A9 (k + 1) c9] at hq
     rcases hb9 with h | h
     · rw [h, bk_own] at hq; exact .inl hq
     · rw [h] at hq; simp at hq; exact .inr (by omega))
    clear ho9 hf9 hb9
    go_wp2
    go_roundw
    case rel =>
     have hbl : ∀ q ∈ bk A4, w.heap.size ≤ q := HNA.out
     refine ⟨k + 1, A9, c9, ys ++ [y], by have := HKN.out; omega, by go_num, rfl, by simp [hyl], ?_, ?_, ?_, ?_, ?_⟩
     · exact Lib.hid (by rw [List.map_append, HCN.out, List.take_add_one, HV.out]; simp [HYC.out])
     · refine Lib.hid ?_
       rw [List.flatMap_append, List.flatMap_singleton, ← HDY.out]
       exact HO9.out
     · refine Lib.hid (fun q hq => ?_)
       rcases HB9.out q hq with h | h
       · exact hbl q h
       · have h1 := HF.out.size; have h2 := HF4.out.size; omega
     · refine Lib.hid (fun u hu S0 h0 => ?_)
       have hfr : Fr (bk A4) wr w9 := (HF4.out.mono (T := bk A4) (by simp)).trans HF9.out (fun q hq _ => hq)
       have hsz := HF4.out.size
       rcases List.mem_append.1 hu with hu | hu
       · refine keepAll (ok := fun w S v => Wce.Ok w S v) (fun h f s => h.keep f s) (w := wr) (B4 := bk A4) (B9 := bk A9) hfr (fun q hq => ?_) (fun S1 h1 => HYS.out u hu S1 h1) S0 h0
         exact (HB9.out q hq).imp id (fun h => by omega)
       · rw [List.mem_singleton.1 hu]
         exact keepAll (ok := fun w S v => Wce.Ok w S v) (fun h f s => h.keep f s) (w := w4) (B4 := bk A4) (B9 := bk A9) HF9.out (fun q hq => HB9.out q hq) HNW.out S0 h0
     · exact Lib.hid ((HF.out.and HF4.out (by simp)).and HF9.out (fun q hq => hbl q hq))
    case measure => have := HKN.out; simp [intOf]; omega
  · have hkn : n = k := by omega
    subst hkn
    have HFIN : Hid (GotL 35 38 Wce.cells (fun w S v => v.Ok w S) Wce.con w wr A4 n c4 ys (l.map Wce.con)) := Lib.hid (by
     have e := HCN.out
     rw [List.take_of_length_le (by rw [HL.out.1]; exact Nat.le_refl _)] at e
     exact ⟨HO.out, hyl, e, HN.out, HNA.out, fun v hv S0 h0 => HYS.out v hv S0 (fun q hq => .inl (h0 q hq))⟩)
    clear hlt hk
    go_wp2
    go_ret
    exact ⟨A4, c4, ys, rfl, HFIN.out, HF.out⟩
def copyPromise_anyZ : Array Value := ((⟨0, 0, 0, none, 0, 0, [], 0, 0⟩ : Wpr)).cells.toArray
set_option maxHeartbeats 2000000 in
theorem copyPromise_any : Copies 51 Wpr.cells (fun w S v => v.Ok w S) Wpr.con := by
 intro x w hx
 obtain ⟨C, hC⟩ : ∃ C, x.cells = C := ⟨_, rfl⟩
 rw [hC]
 have hcl : C.length = 6 := by rw [← hC]; exact rfl
 obtain ⟨wa, hwa⟩ : ∃ wa, wa = (w.alloc (Obj.cells C.toArray 40)).alloc (Obj.cells copyPromise_anyZ 40) := ⟨_, rfl⟩
 have hf0 : Fr [] w wa := by rw [hwa]; exact ((Fr.refl [] w).alloc _).alloc _
 have hb0 : Blk wa w.heap.size 40 C.toArray := by rw [hwa]; exact blk_alloc (Blk.new _ _ _)
 have hb1 : Blk wa (w.heap.size + 1) 40 copyPromise_anyZ := by
  have := Blk.new (w.alloc (Obj.cells C.toArray 40)) 40 copyPromise_anyZ
  rw [hwa]
  simpa using this
 have hc1 : wa.cell? ⟨w.heap.size, 3, none⟩ = some (.slice x.A x.n x.d) := by
  have h := hb0.range (cs := C) 3 (.slice x.A x.n x.d) (by rw [← hC]; rfl)
  simpa using h
 have HX := Lib.hid hx
 have HC := Lib.hid hC
 have HCL := Lib.hid hcl
 have HB0 := Lib.hid hb0
 have HB1 := Lib.hid hb1
 have HF0 := Lib.hid hf0
 have HWA := Lib.hid hwa
 have HS2 : Hid (wa.heap.size = w.heap.size + 2) := Lib.hid (by rw [hwa]; simp)
 have HSV : Hid ((Tryz.prog.info? 38).map (·.size) = some 1) := Lib.hid (by kernel_rfl)
 clear hx hC hcl hb0 hb1 hf0 hwa
 go_enter Tryz.func51, Tryz.ntmps51
 go_upto_region 1 with (fail)
 change Code.wp _ _ _ _ ((w.alloc (Obj.cells C.toArray 40)).alloc (Obj.cells copyPromise_anyZ 40))
 rw [← HWA.out]
 go_wp2_with fail
 refine (copyCerts_any copyCert_any x.A x.n x.d x.l wa (HX.out.l.keep' HF0.out (by simp) (fun _ _ h => Wce.Ok.keep (S' := []) h HF0.out (by simp))) (by have := HX.out.n; omega)).mono ?_
 rintro e_ w1 ⟨A1, c1, ys, rfl, hgl, hf1⟩
 obtain ⟨n1, hn1⟩ : ∃ n1, n1 = x.n := ⟨_, rfl⟩
 rw [← hn1] at hgl ⊢
 have HNE := Lib.hid hn1
 have HGL := Lib.hid hgl
 have HF1 : Hid (Fr [] wa w1) := Lib.hid hf1
 have HN1 : Hid (∀ k ∈ bk A1, wa.heap.size ≤ k) := Lib.hid hgl.new
 clear hgl hf1 hn1
 have HB0 := Lib.hid (HB0.out.keep HF1.out (by simp))
 have HB1 := Lib.hid (HB1.out.keep HF1.out (by simp))
 clear hc1
 have HCE : Hid (C.set 3 (.slice A1 n1 c1) = (⟨x.r, x.e, x.t, A1, n1, c1, ys, x.b, x.m⟩ : Wpr).cells) := Lib.hid (by rw [← HC.out]; rfl)
 have hb2 : Blk (w1.setCells w.heap.size 3 [.slice A1 n1 c1]) w.heap.size 40 (⟨x.r, x.e, x.t, A1, n1, c1, ys, x.b, x.m⟩ : Wpr).cells.toArray := by
  have h := HB0.out.set 3 (.slice A1 n1 c1)
  rw [← HCE.out]
  simpa [World.setCells] using h
 have hfs : Fr [w.heap.size] w1 (w1.setCells w.heap.size 3 [.slice A1 n1 c1]) := Fr.setCells (fun _ => by simp) _ 3 _ (Fr.refl _ _)
 have HFS := Lib.hid hfs
 have HB2 := Lib.hid hb2
 clear hfs hb2
 go_upto_region 2 with (refine wpList_store_at rfl 38 _ _ rfl w.heap.size 3 (.slice A1 n1 c1) rfl rfl rfl 40 _ HB0.out (by rw [List.size_toArray, HCL.out]; decide) HSV.out ?_)
 change Code.wp _ _ _ _ (w1.setCells w.heap.size 3 [.slice A1 n1 c1])
 generalize w1.setCells w.heap.size 3 [.slice A1 n1 c1] = w2 at *
 have HB1 := Lib.hid (HB1.out.keep HFS.out (by simp))
 obtain ⟨E, hE⟩ : ∃ E, E = (⟨x.r, x.e, x.t, A1, n1, c1, ys, x.b, x.m⟩ : Wpr).cells := ⟨_, rfl⟩
 have HEL : Hid (E.length = 6) := Lib.hid (by rw [hE]; exact rfl)
 have HEO : Hid (E.toArray.all (·.oneCell') = true) := Lib.hid (by rw [hE]; exact all_oneCell_toArray (Wpr.one _))
 have HES : Hid ((Tryz.prog.info? 40).map (·.size) = some E.toArray.size) := Lib.hid (by rw [List.size_toArray, HEL.out]; kernel_rfl)
 have HEM : Hid (copyPromise_anyZ.size = E.toArray.size) := Lib.hid (by rw [show E.toArray.size = E.length from List.size_toArray, HEL.out]; rfl)
 have HER : Hid (w2.rangeAt w.heap.size 0 E) := Lib.hid (by rw [hE]; exact HB2.out.range)
 go_wp2_with (first | (refine wpList_load_mid rfl 40 _ rfl w.heap.size 0 rfl E _ HER.out Tryz.underlying40 rfl (row_prm.of HEL.out).2 ?_) | (refine wpList_store_blk rfl 40 _ _ rfl (w.heap.size + 1) E.toArray rfl rfl 40 copyPromise_anyZ HB1.out HES.out HEM.out HEO.out ?_; intro w9 hb9 hf9))
 refine bodyPost_ret (v := .agg E.toArray) (results_cell_row Tryz.results51 _ _ (w.heap.size + 1) 40 E.toArray _ _ rfl hb9 Tryz.underlying40 rfl HES.out) rfl ?_
 have HS9 : Fr [w.heap.size, w.heap.size + 1] w1 w9 := (HFS.out.mono (by intro k hk _; simp at hk; simp [hk])).trans hf9 (fun k hk _ => by simp at hk; simp [hk])
 refine ⟨⟨x.r, x.e, x.t, A1, n1, c1, ys, x.b, x.m⟩, by rw [hE], by unfold Wpr.con; simp only [HGL.out.con], fun S0 h0 => ?_, (HF0.out.and HF1.out (by simp)).go HS9 (by simp)⟩
 have hm : Fr (w.heap.size :: (w.heap.size + 1) :: S0) w1 w9 := HS9.mono (by intro k hk _; simp at hk; rcases hk with rfl | rfl <;> simp)
 have hnk : ∀ k ∈ bk A1, w.heap.size + 2 ≤ k := fun k hk => by have h1 := HN1.out k hk; have h2 := HS2.out; omega
 have hlst := GotL.lst (ok := fun w S v => Wce.Ok w S v) (fun h f s => h.keep f s) (fun _ _ v h => Wce.len h.k.h) HGL.out (g := w.heap.size) (q := w.heap.size + 1) (N := w.heap.size) (by have := HS2.out; omega) (by have := HS2.out; omega) (by have := HS2.out; omega) w9 HS9 S0 h0
 exact ⟨HX.out.r, HX.out.e, HX.out.t, hlst.1, by rw [HNE.out]; exact HX.out.n, hlst.2, HX.out.b, HX.out.m⟩
set_option maxHeartbeats 4000000 in
theorem copyPromises_any (hf : Copies 51 Wpr.cells (fun w S v => v.Ok w S) Wpr.con) (A : Option Addr) (n c : Nat) (l : List Wpr) (w : World) (hl : Lst 6 Wpr.cells (fun w v => v.Ok w []) w A n l) (hn : n ≤ 100) :
  Calls Tryz.prog 131 #[.slice A n c, fnV 51] w fun e w' => ∃ (A' : Option Addr) (c' : Nat) (ys : List Wpr), e = .returned (.slice A' n c') ∧ GotL 40 6 Wpr.cells (fun w S v => v.Ok w S) Wpr.con w w' A' n c' ys (l.map Wpr.con) ∧ Fr [] w w' := by
 have HL := Lib.hid hl
 have HCP := Lib.hid hf
 have HN := Lib.hid hn
 have hn1 : n ≤ 100 := hn
 clear hl hf hn
 unfold fnV
 go_enter Tryz.func131, Tryz.ntmps131
 go_wp2_with fail
 go_loopw [5, 10] (fun sl i wr => ∃ (k : Nat) (A4 : Option Addr) (c4 : Nat) (ys : List Wpr), k ≤ n ∧ i = .int .i64 k ∧ sl = .slice A4 k c4 ∧ ys.length = k ∧ Hid (ys.map Wpr.con = (l.take k).map Wpr.con) ∧ Hid (wr.ownsRow 0 40 6 (.slice A4 k c4) k (ys.flatMap Wpr.cells)) ∧ Hid (∀ q ∈ bk A4, w.heap.size ≤ q) ∧ Hid (∀ y ∈ ys, ∀ S0 : List Nat, (∀ q ∈ S0, q < w.heap.size ∨ q ∈ bk A4) → y.Ok wr S0) ∧ Hid (Fr [] w wr)) (fun _ i _ => n - (intOf i).toNat)
 case atStart => exact ⟨0, none, 0, [], by omega, rfl, rfl, rfl, Lib.hid rfl, Lib.hid ⟨by simp, .inl ⟨rfl, rfl⟩⟩, Lib.hid (by simp [bk]), Lib.hid (by simp), Lib.hid (Fr.refl _ _)⟩
 case round =>
  obtain ⟨k, A4, c4, ys, hk, rfl, rfl, hyl, HCN, HO, HNA, HYS, HF⟩ := hrel
  by_cases hlt : k < n
  · have HKN : Hid (k < n) := Lib.hid hlt
    have hk0 : (0 : Int) ≤ k := by omega
    obtain ⟨ad, v, hA, hv, hcl, hok, hcells⟩ := HL.out.at (i := k) hlt
    subst hA
    have HV := Lib.hid hv
    obtain ⟨CV, hCV⟩ : ∃ CV, Wpr.cells v = CV := ⟨_, rfl⟩
    rw [hCV] at hcells hcl
    have HCELLS : Hid (∀ j u, CV[j]? = some u → wr.cell? ((ad.add (k * 6)).add j) = some u) := Lib.hid (fun j u hj => HF.out.cell (hcells j u hj) (by simp))
    have HCLN := Lib.hid hcl
    have HIN : Hid (v.Ok wr []) := Lib.hid (hok.keep HF.out (by simp))
    have HCV := Lib.hid hCV
    have HSZ0 : Hid ((Tryz.prog.info? 40).map (·.size) = some CV.toArray.size) := Lib.hid (by rw [List.size_toArray, HCLN.out]; kernel_rfl)
    have HCS : Hid (CV.toArray.size = 6) := Lib.hid (by rw [List.size_toArray]; exact HCLN.out)
    have HONE : Hid (CV.toArray.all (·.oneCell') = true) := Lib.hid (by rw [← hCV]; exact all_oneCell_toArray (Wpr.one v))
    clear hcells hcl hok hv hCV
    go_wp2_with (first
     | (refine wpList_cells rfl 40 _ rfl _ rfl CV HCELLS.out (row_prm.of HCLN.out) ?_)
     | (refine wpList_store_blk rfl 40 _ _ rfl wr.heap.size CV.toArray rfl rfl 40 _ (Blk.new wr _ _) HSZ0.out (by rw [HCS.out]; rfl) HONE.out ?_; intro w2 hb2 hf2)
     | (refine wpList_load_mid rfl 40 _ rfl wr.heap.size 0 rfl CV _ hb2.range Tryz.underlying40 rfl (row_prm.of HCLN.out).2 ?_))
    have HF2 : Hid (Fr [] wr w2) := Lib.hid (((Fr.refl [] wr).alloc _).go hf2 (by simp))
    clear hb2 hf2
    have hcc := HCP.out v w2 (HIN.out.keep HF2.out (by simp))
    rw [HCV.out] at hcc
    refine hcc.mono ?_
    rintro e_ w4 ⟨y, rfl, hyc, hyok, hf4⟩
    clear hcc
    have HYC := Lib.hid hyc
    have HF4 : Hid (Fr [] wr w4) := Lib.hid (HF2.out.and hf4 (by simp))
    have HNW : Hid (∀ S0 : List Nat, (∀ q ∈ S0, q < w.heap.size ∨ q ∈ bk A4) → y.Ok w4 S0) := Lib.hid (fun S0 h0 => hyok S0 (fun q hq => by
     have h1 := HF.out.size
     have h2 := HF2.out.size
     rcases h0 q hq with h | h
     · omega
     · have h3 := own_lt HO.out q ((bk_mem A4 k c4 q).2 h); omega))
    have hD : (Wpr.cells y).length = 6 := rfl
    have hD1 := Wpr.one y
    have HO4 := Lib.hid (own_keep HO.out HF4.out (by simp))
    obtain ⟨D, hDY⟩ : ∃ D, D = Wpr.cells y := ⟨_, rfl⟩
    rw [← hDY] at hD hD1 ⊢
    have HD := Lib.hid hD
    have HD1 := Lib.hid hD1
    have HDY := Lib.hid hDY
    clear hyc hyok hf4 hD hD1 hDY hlt
    go_wp2_with (first | (refine wpList_build_one rfl 41 40 _ rfl Tryz.underlying41 D 64 (by rw [HD.out]; exact el_promiseC) rfl (by rw [HD.out]; decide) (by rw [HD.out]; decide) ?_) | (at_builtin; refine Stop.mk ?_))
    refine Stop.go ?_
    refine wpList_append_one2 rfl _ _ 41 40 rfl Tryz.underlying41 6 64 el_promiseC (by decide) 0 (.slice A4 k c4) k _ D rfl (HO4.out.alloc _) (Nat.zero_le _) HD.out HD1.out w4.heap.size 40 rfl (Blk.new _ _ _) (by have := HN.out; omega) (by decide) ?_
    intro A9 c9 w9 ho9 hf9 hb9
    have HO9 := Lib.hid ho9
    have HF9 : Hid (Fr (bk A4) w4 w9) := Lib.hid (by
     have h : Fr (bk A4) (w4.alloc (Obj.cells D.toArray 40)) w9 := by rw [← bk_own A4 k c4]; exact hf9
     exact (((Fr.refl [] w4).alloc _).mono (by simp)).trans h (fun y hy _ => hy))
    have HB9 : Hid (∀ q ∈ bk A9, q ∈ bk A4 ∨ w4.heap.size ≤ q) := Lib.hid (by
     intro q hq
     rw [← bk_own A9 (k + 1) c9] at hq
     rcases hb9 with h | h
     · rw [h, bk_own] at hq; exact .inl hq
     · rw [h] at hq; simp at hq; exact .inr (by omega))
    clear ho9 hf9 hb9
    go_wp2
    go_roundw
    case rel =>
     have hbl : ∀ q ∈ bk A4, w.heap.size ≤ q := HNA.out
     refine ⟨k + 1, A9, c9, ys ++ [y], by have := HKN.out; omega, by go_num, rfl, by simp [hyl], ?_, ?_, ?_, ?_, ?_⟩
     · exact Lib.hid (by rw [List.map_append, HCN.out, List.take_add_one, HV.out]; simp [HYC.out])
     · refine Lib.hid ?_
       rw [List.flatMap_append, List.flatMap_singleton, ← HDY.out]
       exact HO9.out
     · refine Lib.hid (fun q hq => ?_)
       rcases HB9.out q hq with h | h
       · exact hbl q h
       · have h1 := HF.out.size; have h2 := HF4.out.size; omega
     · refine Lib.hid (fun u hu S0 h0 => ?_)
       have hfr : Fr (bk A4) wr w9 := (HF4.out.mono (T := bk A4) (by simp)).trans HF9.out (fun q hq _ => hq)
       have hsz := HF4.out.size
       rcases List.mem_append.1 hu with hu | hu
       · refine keepAll (ok := fun w S v => Wpr.Ok w S v) (fun h f s => h.keep f s) (w := wr) (B4 := bk A4) (B9 := bk A9) hfr (fun q hq => ?_) (fun S1 h1 => HYS.out u hu S1 h1) S0 h0
         exact (HB9.out q hq).imp id (fun h => by omega)
       · rw [List.mem_singleton.1 hu]
         exact keepAll (ok := fun w S v => Wpr.Ok w S v) (fun h f s => h.keep f s) (w := w4) (B4 := bk A4) (B9 := bk A9) HF9.out (fun q hq => HB9.out q hq) HNW.out S0 h0
     · exact Lib.hid ((HF.out.and HF4.out (by simp)).and HF9.out (fun q hq => hbl q hq))
    case measure => have := HKN.out; simp [intOf]; omega
  · have hkn : n = k := by omega
    subst hkn
    have HFIN : Hid (GotL 40 6 Wpr.cells (fun w S v => v.Ok w S) Wpr.con w wr A4 n c4 ys (l.map Wpr.con)) := Lib.hid (by
     have e := HCN.out
     rw [List.take_of_length_le (by rw [HL.out.1]; exact Nat.le_refl _)] at e
     exact ⟨HO.out, hyl, e, HN.out, HNA.out, fun v hv S0 h0 => HYS.out v hv S0 (fun q hq => .inl (h0 q hq))⟩)
    clear hlt hk
    go_wp2
    go_ret
    exact ⟨A4, c4, ys, rfl, HFIN.out, HF.out⟩
set_option maxHeartbeats 4000000 in
theorem copyOpenings_any (hf : Copies 53 Wop.cells (fun w S v => v.Ok w S) Wop.con) (A : Option Addr) (n c : Nat) (l : List Wop) (w : World) (hl : Lst 34 Wop.cells (fun w v => v.Ok w []) w A n l) (hn : n ≤ 100) :
  Calls Tryz.prog 132 #[.slice A n c, fnV 53] w fun e w' => ∃ (A' : Option Addr) (c' : Nat) (ys : List Wop), e = .returned (.slice A' n c') ∧ GotL 54 34 Wop.cells (fun w S v => v.Ok w S) Wop.con w w' A' n c' ys (l.map Wop.con) ∧ Fr [] w w' := by
 have HL := Lib.hid hl
 have HCP := Lib.hid hf
 have HN := Lib.hid hn
 have hn1 : n ≤ 100 := hn
 clear hl hf hn
 unfold fnV
 go_enter Tryz.func132, Tryz.ntmps132
 go_wp2_with fail
 go_loopw [5, 10] (fun sl i wr => ∃ (k : Nat) (A4 : Option Addr) (c4 : Nat) (ys : List Wop), k ≤ n ∧ i = .int .i64 k ∧ sl = .slice A4 k c4 ∧ ys.length = k ∧ Hid (ys.map Wop.con = (l.take k).map Wop.con) ∧ Hid (wr.ownsRow 0 54 34 (.slice A4 k c4) k (ys.flatMap Wop.cells)) ∧ Hid (∀ q ∈ bk A4, w.heap.size ≤ q) ∧ Hid (∀ y ∈ ys, ∀ S0 : List Nat, (∀ q ∈ S0, q < w.heap.size ∨ q ∈ bk A4) → y.Ok wr S0) ∧ Hid (Fr [] w wr)) (fun _ i _ => n - (intOf i).toNat)
 case atStart => exact ⟨0, none, 0, [], by omega, rfl, rfl, rfl, Lib.hid rfl, Lib.hid ⟨by simp, .inl ⟨rfl, rfl⟩⟩, Lib.hid (by simp [bk]), Lib.hid (by simp), Lib.hid (Fr.refl _ _)⟩
 case round =>
  obtain ⟨k, A4, c4, ys, hk, rfl, rfl, hyl, HCN, HO, HNA, HYS, HF⟩ := hrel
  by_cases hlt : k < n
  · have HKN : Hid (k < n) := Lib.hid hlt
    have hk0 : (0 : Int) ≤ k := by omega
    obtain ⟨ad, v, hA, hv, hcl, hok, hcells⟩ := HL.out.at (i := k) hlt
    subst hA
    have HV := Lib.hid hv
    obtain ⟨CV, hCV⟩ : ∃ CV, Wop.cells v = CV := ⟨_, rfl⟩
    rw [hCV] at hcells hcl
    have HCELLS : Hid (∀ j u, CV[j]? = some u → wr.cell? ((ad.add (k * 34)).add j) = some u) := Lib.hid (fun j u hj => HF.out.cell (hcells j u hj) (by simp))
    have HCLN := Lib.hid hcl
    have HIN : Hid (v.Ok wr []) := Lib.hid (hok.keep HF.out (by simp))
    have HCV := Lib.hid hCV
    have HSZ0 : Hid ((Tryz.prog.info? 54).map (·.size) = some CV.toArray.size) := Lib.hid (by rw [List.size_toArray, HCLN.out]; kernel_rfl)
    have HCS : Hid (CV.toArray.size = 34) := Lib.hid (by rw [List.size_toArray]; exact HCLN.out)
    have HONE : Hid (CV.toArray.all (·.oneCell') = true) := Lib.hid (by rw [← hCV]; exact all_oneCell_toArray (Wop.one v))
    clear hcells hcl hok hv hCV
    go_wp2_with (first
     | (refine wpList_cells rfl 54 _ rfl _ rfl CV HCELLS.out (row_opn.of HCLN.out) ?_)
     | (refine wpList_store_blk rfl 54 _ _ rfl wr.heap.size CV.toArray rfl rfl 54 _ (Blk.new wr _ _) HSZ0.out (by rw [HCS.out]; rfl) HONE.out ?_; intro w2 hb2 hf2)
     | (refine wpList_load_mid rfl 54 _ rfl wr.heap.size 0 rfl CV _ hb2.range Tryz.underlying54 rfl (row_opn.of HCLN.out).2 ?_))
    have HF2 : Hid (Fr [] wr w2) := Lib.hid (((Fr.refl [] wr).alloc _).go hf2 (by simp))
    clear hb2 hf2
    have hcc := HCP.out v w2 (HIN.out.keep HF2.out (by simp))
    rw [HCV.out] at hcc
    refine hcc.mono ?_
    rintro e_ w4 ⟨y, rfl, hyc, hyok, hf4⟩
    clear hcc
    have HYC := Lib.hid hyc
    have HF4 : Hid (Fr [] wr w4) := Lib.hid (HF2.out.and hf4 (by simp))
    have HNW : Hid (∀ S0 : List Nat, (∀ q ∈ S0, q < w.heap.size ∨ q ∈ bk A4) → y.Ok w4 S0) := Lib.hid (fun S0 h0 => hyok S0 (fun q hq => by
     have h1 := HF.out.size
     have h2 := HF2.out.size
     rcases h0 q hq with h | h
     · omega
     · have h3 := own_lt HO.out q ((bk_mem A4 k c4 q).2 h); omega))
    have hD : (Wop.cells y).length = 34 := Wop.len (hyok [] (by simp)).h
    have hD1 := Wop.one y
    have HO4 := Lib.hid (own_keep HO.out HF4.out (by simp))
    obtain ⟨D, hDY⟩ : ∃ D, D = Wop.cells y := ⟨_, rfl⟩
    rw [← hDY] at hD hD1 ⊢
    have HD := Lib.hid hD
    have HD1 := Lib.hid hD1
    have HDY := Lib.hid hDY
    clear hyc hyok hf4 hD hD1 hDY hlt
    go_wp2_with (first | (refine wpList_build_one rfl 42 54 _ rfl Tryz.underlying42 D 64 (by rw [HD.out]; exact el_opn) rfl (by rw [HD.out]; decide) (by rw [HD.out]; decide) ?_) | (at_builtin; refine Stop.mk ?_))
    refine Stop.go ?_
    refine wpList_append_one2 rfl _ _ 42 54 rfl Tryz.underlying42 34 64 el_opn (by decide) 0 (.slice A4 k c4) k _ D rfl (HO4.out.alloc _) (Nat.zero_le _) HD.out HD1.out w4.heap.size 54 rfl (Blk.new _ _ _) (by have := HN.out; omega) (by decide) ?_
    intro A9 c9 w9 ho9 hf9 hb9
    have HO9 := Lib.hid ho9
    have HF9 : Hid (Fr (bk A4) w4 w9) := Lib.hid (by
     have h : Fr (bk A4) (w4.alloc (Obj.cells D.toArray 54)) w9 := by rw [← bk_own A4 k c4]; exact hf9
     exact (((Fr.refl [] w4).alloc _).mono (by simp)).trans h (fun y hy _ => hy))
    have HB9 : Hid (∀ q ∈ bk A9, q ∈ bk A4 ∨ w4.heap.size ≤ q) := Lib.hid (by
     intro q hq
     rw [← bk_own A9 (k + 1) c9] at hq
     rcases hb9 with h | h
     · rw [h, bk_own] at hq; exact .inl hq
     · rw [h] at hq; simp at hq; exact .inr (by omega))
    clear ho9 hf9 hb9
    go_wp2
    go_roundw
    case rel =>
     have hbl : ∀ q ∈ bk A4, w.heap.size ≤ q := HNA.out
     refine ⟨k + 1, A9, c9, ys ++ [y], by have := HKN.out; omega, by go_num, rfl, by simp [hyl], ?_, ?_, ?_, ?_, ?_⟩
     · exact Lib.hid (by rw [List.map_append, HCN.out, List.take_add_one, HV.out]; simp [HYC.out])
     · refine Lib.hid ?_
       rw [List.flatMap_append, List.flatMap_singleton, ← HDY.out]
       exact HO9.out
     · refine Lib.hid (fun q hq => ?_)
       rcases HB9.out q hq with h | h
       · exact hbl q h
       · have h1 := HF.out.size; have h2 := HF4.out.size; omega
     · refine Lib.hid (fun u hu S0 h0 => ?_)
       have hfr : Fr (bk A4) wr w9 := (HF4.out.mono (T := bk A4) (by simp)).trans HF9.out (fun q hq _ => hq)
       have hsz := HF4.out.size
       rcases List.mem_append.1 hu with hu | hu
       · refine keepAll (ok := fun w S v => Wop.Ok w S v) (fun h f s => h.keep f s) (w := wr) (B4 := bk A4) (B9 := bk A9) hfr (fun q hq => ?_) (fun S1 h1 => HYS.out u hu S1 h1) S0 h0
         exact (HB9.out q hq).imp id (fun h => by omega)
       · rw [List.mem_singleton.1 hu]
         exact keepAll (ok := fun w S v => Wop.Ok w S v) (fun h f s => h.keep f s) (w := w4) (B4 := bk A4) (B9 := bk A9) HF9.out (fun q hq => HB9.out q hq) HNW.out S0 h0
     · exact Lib.hid ((HF.out.and HF4.out (by simp)).and HF9.out (fun q hq => hbl q hq))
    case measure => have := HKN.out; simp [intOf]; omega
  · have hkn : n = k := by omega
    subst hkn
    have HFIN : Hid (GotL 54 34 Wop.cells (fun w S v => v.Ok w S) Wop.con w wr A4 n c4 ys (l.map Wop.con)) := Lib.hid (by
     have e := HCN.out
     rw [List.take_of_length_le (by rw [HL.out.1]; exact Nat.le_refl _)] at e
     exact ⟨HO.out, hyl, e, HN.out, HNA.out, fun v hv S0 h0 => HYS.out v hv S0 (fun q hq => .inl (h0 q hq))⟩)
    clear hlt hk
    go_wp2
    go_ret
    exact ⟨A4, c4, ys, rfl, HFIN.out, HF.out⟩
set_option maxHeartbeats 4000000 in
theorem copyTombs_any (hf : Copies 134 Wtb.cells (fun w S v => v.Ok w S) Wtb.con) (A : Option Addr) (n c : Nat) (l : List Wtb) (w : World) (hl : Lst 2 Wtb.cells (fun w v => v.Ok w []) w A n l) (hn : n ≤ 100) :
  Calls Tryz.prog 133 #[.slice A n c, fnV 134] w fun e w' => ∃ (A' : Option Addr) (c' : Nat) (ys : List Wtb), e = .returned (.slice A' n c') ∧ GotL 132 2 Wtb.cells (fun w S v => v.Ok w S) Wtb.con w w' A' n c' ys (l.map Wtb.con) ∧ Fr [] w w' := by
 have HL := Lib.hid hl
 have HCP := Lib.hid hf
 have HN := Lib.hid hn
 have hn1 : n ≤ 100 := hn
 clear hl hf hn
 unfold fnV
 go_enter Tryz.func133, Tryz.ntmps133
 go_wp2_with fail
 go_loopw [5, 10] (fun sl i wr => ∃ (k : Nat) (A4 : Option Addr) (c4 : Nat) (ys : List Wtb), k ≤ n ∧ i = .int .i64 k ∧ sl = .slice A4 k c4 ∧ ys.length = k ∧ Hid (ys.map Wtb.con = (l.take k).map Wtb.con) ∧ Hid (wr.ownsRow 0 132 2 (.slice A4 k c4) k (ys.flatMap Wtb.cells)) ∧ Hid (∀ q ∈ bk A4, w.heap.size ≤ q) ∧ Hid (∀ y ∈ ys, ∀ S0 : List Nat, (∀ q ∈ S0, q < w.heap.size ∨ q ∈ bk A4) → y.Ok wr S0) ∧ Hid (Fr [] w wr)) (fun _ i _ => n - (intOf i).toNat)
 case atStart => exact ⟨0, none, 0, [], by omega, rfl, rfl, rfl, Lib.hid rfl, Lib.hid ⟨by simp, .inl ⟨rfl, rfl⟩⟩, Lib.hid (by simp [bk]), Lib.hid (by simp), Lib.hid (Fr.refl _ _)⟩
 case round =>
  obtain ⟨k, A4, c4, ys, hk, rfl, rfl, hyl, HCN, HO, HNA, HYS, HF⟩ := hrel
  by_cases hlt : k < n
  · have HKN : Hid (k < n) := Lib.hid hlt
    have hk0 : (0 : Int) ≤ k := by omega
    obtain ⟨ad, v, hA, hv, hcl, hok, hcells⟩ := HL.out.at (i := k) hlt
    subst hA
    have HV := Lib.hid hv
    obtain ⟨CV, hCV⟩ : ∃ CV, Wtb.cells v = CV := ⟨_, rfl⟩
    rw [hCV] at hcells hcl
    have HCELLS : Hid (∀ j u, CV[j]? = some u → wr.cell? ((ad.add (k * 2)).add j) = some u) := Lib.hid (fun j u hj => HF.out.cell (hcells j u hj) (by simp))
    have HCLN := Lib.hid hcl
    have HIN : Hid (v.Ok wr []) := Lib.hid (hok.keep HF.out (by simp))
    have HCV := Lib.hid hCV
    have HSZ0 : Hid ((Tryz.prog.info? 132).map (·.size) = some CV.toArray.size) := Lib.hid (by rw [List.size_toArray, HCLN.out]; kernel_rfl)
    have HCS : Hid (CV.toArray.size = 2) := Lib.hid (by rw [List.size_toArray]; exact HCLN.out)
    have HONE : Hid (CV.toArray.all (·.oneCell') = true) := Lib.hid (by rw [← hCV]; exact all_oneCell_toArray (Wtb.one v))
    clear hcells hcl hok hv hCV
    go_wp2_with (first
     | (refine wpList_cells rfl 132 _ rfl _ rfl CV HCELLS.out (row_tmb.of HCLN.out) ?_)
     | (refine wpList_store_blk rfl 132 _ _ rfl wr.heap.size CV.toArray rfl rfl 132 _ (Blk.new wr _ _) HSZ0.out (by rw [HCS.out]; rfl) HONE.out ?_; intro w2 hb2 hf2)
     | (refine wpList_load_mid rfl 132 _ rfl wr.heap.size 0 rfl CV _ hb2.range Tryz.underlying132 rfl (row_tmb.of HCLN.out).2 ?_))
    have HF2 : Hid (Fr [] wr w2) := Lib.hid (((Fr.refl [] wr).alloc _).go hf2 (by simp))
    clear hb2 hf2
    have hcc := HCP.out v w2 (HIN.out.keep HF2.out (by simp))
    rw [HCV.out] at hcc
    refine hcc.mono ?_
    rintro e_ w4 ⟨y, rfl, hyc, hyok, hf4⟩
    clear hcc
    have HYC := Lib.hid hyc
    have HF4 : Hid (Fr [] wr w4) := Lib.hid (HF2.out.and hf4 (by simp))
    have HNW : Hid (∀ S0 : List Nat, (∀ q ∈ S0, q < w.heap.size ∨ q ∈ bk A4) → y.Ok w4 S0) := Lib.hid (fun S0 h0 => hyok S0 (fun q hq => by
     have h1 := HF.out.size
     have h2 := HF2.out.size
     rcases h0 q hq with h | h
     · omega
     · have h3 := own_lt HO.out q ((bk_mem A4 k c4 q).2 h); omega))
    have hD : (Wtb.cells y).length = 2 := rfl
    have hD1 := Wtb.one y
    have HO4 := Lib.hid (own_keep HO.out HF4.out (by simp))
    obtain ⟨D, hDY⟩ : ∃ D, D = Wtb.cells y := ⟨_, rfl⟩
    rw [← hDY] at hD hD1 ⊢
    have HD := Lib.hid hD
    have HD1 := Lib.hid hD1
    have HDY := Lib.hid hDY
    clear hyc hyok hf4 hD hD1 hDY hlt
    go_wp2_with (first | (refine wpList_build_one rfl 43 132 _ rfl Tryz.underlying43 D 32 (by rw [HD.out]; exact el_tomb) rfl (by rw [HD.out]; decide) (by rw [HD.out]; decide) ?_) | (at_builtin; refine Stop.mk ?_))
    refine Stop.go ?_
    refine wpList_append_one2 rfl _ _ 43 132 rfl Tryz.underlying43 2 32 el_tomb (by decide) 0 (.slice A4 k c4) k _ D rfl (HO4.out.alloc _) (Nat.zero_le _) HD.out HD1.out w4.heap.size 132 rfl (Blk.new _ _ _) (by have := HN.out; omega) (by decide) ?_
    intro A9 c9 w9 ho9 hf9 hb9
    have HO9 := Lib.hid ho9
    have HF9 : Hid (Fr (bk A4) w4 w9) := Lib.hid (by
     have h : Fr (bk A4) (w4.alloc (Obj.cells D.toArray 132)) w9 := by rw [← bk_own A4 k c4]; exact hf9
     exact (((Fr.refl [] w4).alloc _).mono (by simp)).trans h (fun y hy _ => hy))
    have HB9 : Hid (∀ q ∈ bk A9, q ∈ bk A4 ∨ w4.heap.size ≤ q) := Lib.hid (by
     intro q hq
     rw [← bk_own A9 (k + 1) c9] at hq
     rcases hb9 with h | h
     · rw [h, bk_own] at hq; exact .inl hq
     · rw [h] at hq; simp at hq; exact .inr (by omega))
    clear ho9 hf9 hb9
    go_wp2
    go_roundw
    case rel =>
     have hbl : ∀ q ∈ bk A4, w.heap.size ≤ q := HNA.out
     refine ⟨k + 1, A9, c9, ys ++ [y], by have := HKN.out; omega, by go_num, rfl, by simp [hyl], ?_, ?_, ?_, ?_, ?_⟩
     · exact Lib.hid (by rw [List.map_append, HCN.out, List.take_add_one, HV.out]; simp [HYC.out])
     · refine Lib.hid ?_
       rw [List.flatMap_append, List.flatMap_singleton, ← HDY.out]
       exact HO9.out
     · refine Lib.hid (fun q hq => ?_)
       rcases HB9.out q hq with h | h
       · exact hbl q h
       · have h1 := HF.out.size; have h2 := HF4.out.size; omega
     · refine Lib.hid (fun u hu S0 h0 => ?_)
       have hfr : Fr (bk A4) wr w9 := (HF4.out.mono (T := bk A4) (by simp)).trans HF9.out (fun q hq _ => hq)
       have hsz := HF4.out.size
       rcases List.mem_append.1 hu with hu | hu
       · refine keepAll (ok := fun w S v => Wtb.Ok w S v) (fun h f s => h.keep f s) (w := wr) (B4 := bk A4) (B9 := bk A9) hfr (fun q hq => ?_) (fun S1 h1 => HYS.out u hu S1 h1) S0 h0
         exact (HB9.out q hq).imp id (fun h => by omega)
       · rw [List.mem_singleton.1 hu]
         exact keepAll (ok := fun w S v => Wtb.Ok w S v) (fun h f s => h.keep f s) (w := w4) (B4 := bk A4) (B9 := bk A9) HF9.out (fun q hq => HB9.out q hq) HNW.out S0 h0
     · exact Lib.hid ((HF.out.and HF4.out (by simp)).and HF9.out (fun q hq => hbl q hq))
    case measure => have := HKN.out; simp [intOf]; omega
  · have hkn : n = k := by omega
    subst hkn
    have HFIN : Hid (GotL 132 2 Wtb.cells (fun w S v => v.Ok w S) Wtb.con w wr A4 n c4 ys (l.map Wtb.con)) := Lib.hid (by
     have e := HCN.out
     rw [List.take_of_length_le (by rw [HL.out.1]; exact Nat.le_refl _)] at e
     exact ⟨HO.out, hyl, e, HN.out, HNA.out, fun v hv S0 h0 => HYS.out v hv S0 (fun q hq => .inl (h0 q hq))⟩)
    clear hlt hk
    go_wp2
    go_ret
    exact ⟨A4, c4, ys, rfl, HFIN.out, HF.out⟩
end Go.Proofs.YtpcnedpheplofaaGreat

namespace Go.Proofs.YtpcnedpheplofaaGreat
open Go.RowKit
set_option maxRecDepth 100000
theorem lt_two {g N : Nat} {S0 : List Nat} (h0 : ∀ k ∈ S0, k < g) (hN : g + 2 ≤ N) : ∀ k ∈ g :: (g + 1) :: S0, k < N := by
 intro k hk
 rcases List.mem_cons.1 hk with rfl | hk
 · omega
 · rcases List.mem_cons.1 hk with rfl | hk
   · omega
   · have := h0 k hk; omega
theorem row_poC : RowTy Tryz.prog 47 11 := ⟨by kernel_rfl, by kernel_rfl⟩
def copyBatch_anyZ : Array Value := ((⟨0, 0, none, 0, 0, [], none, 0, 0, [], none, 0, 0, []⟩ : Wba)).cells.toArray
set_option maxHeartbeats 4000000 in
theorem copyBatch_any : Copies 99 Wba.cells (fun w S v => v.Ok w S) Wba.con := by
 intro x w hx
 obtain ⟨C, hC⟩ : ∃ C, x.cells = C := ⟨_, rfl⟩
 rw [hC]
 have hcl : C.length = 5 := by rw [← hC]; rfl
 obtain ⟨wa, hwa⟩ : ∃ wa, wa = (w.alloc (Obj.cells C.toArray 45)).alloc (Obj.cells copyBatch_anyZ 45) := ⟨_, rfl⟩
 have hf0 : Fr [] w wa := by rw [hwa]; exact ((Fr.refl [] w).alloc _).alloc _
 have hb0 : Blk wa w.heap.size 45 x.cells.toArray := by rw [hwa, hC]; exact blk_alloc (Blk.new _ _ _)
 have hb1 : Blk wa (w.heap.size + 1) 45 copyBatch_anyZ := by
  have := Blk.new (w.alloc (Obj.cells C.toArray 45)) 45 copyBatch_anyZ
  rw [hwa]
  simpa using this
 have HX := Lib.hid hx
 have HB0 := Lib.hid hb0
 have HB1 := Lib.hid hb1
 have HF0 := Lib.hid hf0
 have HWA := Lib.hid hwa
 have HS2 : Hid (wa.heap.size = w.heap.size + 2) := Lib.hid (by rw [hwa]; simp)
 clear hx hC hcl hb0 hb1 hf0 hwa
 go_enter Tryz.func99, Tryz.ntmps99
 go_upto_region 1 with (fail)
 change Code.wp _ _ _ _ ((w.alloc (Obj.cells C.toArray 45)).alloc (Obj.cells copyBatch_anyZ 45))
 rw [← HWA.out]
 have hc1 : wa.cell? ⟨w.heap.size, 2, none⟩ = some (.slice x.A x.n x.d) := by
  have h := HB0.out.range 2 (.slice x.A x.n x.d) rfl
  simpa using h
 go_wp2_with fail
 refine (copyPromises_any copyPromise_any x.A x.n x.d x.l wa (HX.out.l.keep' HF0.out (by simp) (fun _ _ h => Wpr.Ok.keep (S' := []) h HF0.out (by simp))) (by have := HX.out.n; omega)).mono ?_
 rintro e_ w1 ⟨A1, c1, ys1, rfl, hgl, hf1⟩
 obtain ⟨n1, hn1⟩ : ∃ n1, n1 = x.n := ⟨_, rfl⟩
 rw [← hn1] at hgl ⊢
 have HNE1 := Lib.hid hn1
 have HGL1 := Lib.hid hgl
 have HFc1 : Hid (Fr [] wa w1) := Lib.hid hf1
 have HSZ1 : Hid (w.heap.size + 2 ≤ wa.heap.size) := Lib.hid (by have := HS2.out; omega)
 clear hgl hf1 hn1
 have HFw1 : Hid (Fr [] w w1) := Lib.hid (HF0.out.and HFc1.out (by simp))
 have HBc1 := Lib.hid (HB0.out.keep HFc1.out (by simp))
 have HB1 := Lib.hid (HB1.out.keep HFc1.out (by simp))
 have hb2 : Blk (w1.setCells w.heap.size 2 [.slice A1 n1 c1]) w.heap.size 45 (⟨x.e, x.t, A1, n1, c1, ys1, x.A2, x.n2, x.d2, x.l2, x.A3, x.n3, x.d3, x.l3⟩ : Wba).cells.toArray := by have h := HBc1.out.set 2 (.slice A1 n1 c1); exact h
 have hfs : Fr [w.heap.size] w1 (w1.setCells w.heap.size 2 [.slice A1 n1 c1]) := Fr.setCells (fun _ => by simp) _ 2 _ (Fr.refl _ _)
 have HFS1 := Lib.hid hfs
 have HBx1 := Lib.hid hb2
 clear hfs hb2
 have HSV1 : Hid ((Tryz.prog.info? 41).map (·.size) = some 1) := Lib.hid (by kernel_rfl)
 clear hc1
 go_upto_region 2 with (refine wpList_store_at rfl 41 _ _ rfl w.heap.size 2 (.slice A1 n1 c1) rfl rfl rfl 45 _ HBc1.out (by rw [List.size_toArray]; exact (show 2 < 5 by decide)) HSV1.out ?_)
 change Code.wp _ _ _ _ (w1.setCells w.heap.size 2 [.slice A1 n1 c1])
 generalize w1.setCells w.heap.size 2 [.slice A1 n1 c1] = u1 at *
 have HFu1 : Hid (Fr [] w u1) := Lib.hid (HFw1.out.go HFS1.out (by simp))
 have HB1 := Lib.hid (HB1.out.keep HFS1.out (by simp))
 have hc2 : u1.cell? ⟨w.heap.size, 3, none⟩ = some (.slice x.A2 x.n2 x.d2) := by
  have h := HBx1.out.range 3 (.slice x.A2 x.n2 x.d2) rfl
  simpa using h
 go_wp2_with fail
 refine (copyOpenings_any copyOpening_any x.A2 x.n2 x.d2 x.l2 u1 (HX.out.l2.keep' HFu1.out (by simp) (fun _ _ h => Wop.Ok.keep (S' := []) h HFu1.out (by simp))) (by have := HX.out.n2; omega)).mono ?_
 rintro e_ w2 ⟨A2, c2, ys2, rfl, hgl, hf1⟩
 obtain ⟨n2, hn1⟩ : ∃ n1, n1 = x.n2 := ⟨_, rfl⟩
 rw [← hn1] at hgl ⊢
 have HNE2 := Lib.hid hn1
 have HGL2 := Lib.hid hgl
 have HFc2 : Hid (Fr [] u1 w2) := Lib.hid hf1
 have HSZ2 : Hid (w.heap.size + 2 ≤ u1.heap.size) := Lib.hid (by have h1 := HSZ1.out; have h2 := HFc1.out.size; have h3 := HFS1.out.size; omega)
 clear hgl hf1 hn1
 have HFw2 : Hid (Fr [] w w2) := Lib.hid (HFu1.out.and HFc2.out (by simp))
 have HBc2 := Lib.hid (HBx1.out.keep HFc2.out (by simp))
 have HB1 := Lib.hid (HB1.out.keep HFc2.out (by simp))
 have hb2 : Blk (w2.setCells w.heap.size 3 [.slice A2 n2 c2]) w.heap.size 45 (⟨x.e, x.t, A1, n1, c1, ys1, A2, n2, c2, ys2, x.A3, x.n3, x.d3, x.l3⟩ : Wba).cells.toArray := by have h := HBc2.out.set 3 (.slice A2 n2 c2); exact h
 have hfs : Fr [w.heap.size] w2 (w2.setCells w.heap.size 3 [.slice A2 n2 c2]) := Fr.setCells (fun _ => by simp) _ 3 _ (Fr.refl _ _)
 have HFS2 := Lib.hid hfs
 have HBx2 := Lib.hid hb2
 clear hfs hb2
 have HSV2 : Hid ((Tryz.prog.info? 42).map (·.size) = some 1) := Lib.hid (by kernel_rfl)
 clear hc2
 go_upto_region 3 with (refine wpList_store_at rfl 42 _ _ rfl w.heap.size 3 (.slice A2 n2 c2) rfl rfl rfl 45 _ HBc2.out (by rw [List.size_toArray]; exact (show 3 < 5 by decide)) HSV2.out ?_)
 change Code.wp _ _ _ _ (w2.setCells w.heap.size 3 [.slice A2 n2 c2])
 generalize w2.setCells w.heap.size 3 [.slice A2 n2 c2] = u2 at *
 have HFu2 : Hid (Fr [] w u2) := Lib.hid (HFw2.out.go HFS2.out (by simp))
 have HB1 := Lib.hid (HB1.out.keep HFS2.out (by simp))
 have hc3 : u2.cell? ⟨w.heap.size, 4, none⟩ = some (.slice x.A3 x.n3 x.d3) := by
  have h := HBx2.out.range 4 (.slice x.A3 x.n3 x.d3) rfl
  simpa using h
 go_wp2_with fail
 refine (copyTombs_any copyTomb_any x.A3 x.n3 x.d3 x.l3 u2 (HX.out.l3.keep' HFu2.out (by simp) (fun _ _ h => Wtb.Ok.keep (S' := []) h HFu2.out (by simp))) (by have := HX.out.n3; omega)).mono ?_
 rintro e_ w3 ⟨A3, c3, ys3, rfl, hgl, hf1⟩
 obtain ⟨n3, hn1⟩ : ∃ n1, n1 = x.n3 := ⟨_, rfl⟩
 rw [← hn1] at hgl ⊢
 have HNE3 := Lib.hid hn1
 have HGL3 := Lib.hid hgl
 have HFc3 : Hid (Fr [] u2 w3) := Lib.hid hf1
 have HSZ3 : Hid (w.heap.size + 2 ≤ u2.heap.size) := Lib.hid (by have h1 := HSZ2.out; have h2 := HFc2.out.size; have h3 := HFS2.out.size; omega)
 clear hgl hf1 hn1
 have HFw3 : Hid (Fr [] w w3) := Lib.hid (HFu2.out.and HFc3.out (by simp))
 have HBc3 := Lib.hid (HBx2.out.keep HFc3.out (by simp))
 have HB1 := Lib.hid (HB1.out.keep HFc3.out (by simp))
 have hb2 : Blk (w3.setCells w.heap.size 4 [.slice A3 n3 c3]) w.heap.size 45 (⟨x.e, x.t, A1, n1, c1, ys1, A2, n2, c2, ys2, A3, n3, c3, ys3⟩ : Wba).cells.toArray := by have h := HBc3.out.set 4 (.slice A3 n3 c3); exact h
 have hfs : Fr [w.heap.size] w3 (w3.setCells w.heap.size 4 [.slice A3 n3 c3]) := Fr.setCells (fun _ => by simp) _ 4 _ (Fr.refl _ _)
 have HFS3 := Lib.hid hfs
 have HBx3 := Lib.hid hb2
 clear hfs hb2
 have HSV3 : Hid ((Tryz.prog.info? 43).map (·.size) = some 1) := Lib.hid (by kernel_rfl)
 clear hc3
 go_upto_region 4 with (refine wpList_store_at rfl 43 _ _ rfl w.heap.size 4 (.slice A3 n3 c3) rfl rfl rfl 45 _ HBc3.out (by rw [List.size_toArray]; exact (show 4 < 5 by decide)) HSV3.out ?_)
 change Code.wp _ _ _ _ (w3.setCells w.heap.size 4 [.slice A3 n3 c3])
 generalize w3.setCells w.heap.size 4 [.slice A3 n3 c3] = u3 at *
 have HFu3 : Hid (Fr [] w u3) := Lib.hid (HFw3.out.go HFS3.out (by simp))
 have HB1 := Lib.hid (HB1.out.keep HFS3.out (by simp))
 obtain ⟨E, hE⟩ : ∃ E, E = (⟨x.e, x.t, A1, n1, c1, ys1, A2, n2, c2, ys2, A3, n3, c3, ys3⟩ : Wba).cells := ⟨_, rfl⟩
 have HEL : Hid (E.length = 5) := Lib.hid (by rw [hE]; rfl)
 have HEO : Hid (E.toArray.all (·.oneCell') = true) := Lib.hid (by rw [hE]; exact all_oneCell_toArray (Wba.one _))
 have HES : Hid ((Tryz.prog.info? 45).map (·.size) = some E.toArray.size) := Lib.hid (by rw [List.size_toArray, HEL.out]; kernel_rfl)
 have HEM : Hid (copyBatch_anyZ.size = E.toArray.size) := Lib.hid (by rw [show E.toArray.size = E.length from List.size_toArray, HEL.out]; rfl)
 have HER : Hid (u3.rangeAt w.heap.size 0 E) := Lib.hid (by rw [hE]; exact HBx3.out.range)
 go_wp2_with (first | (refine wpList_load_mid rfl 45 _ rfl w.heap.size 0 rfl E _ HER.out Tryz.underlying45 rfl (row_bat.of HEL.out).2 ?_) | (refine wpList_store_blk rfl 45 _ _ rfl (w.heap.size + 1) E.toArray rfl rfl 45 copyBatch_anyZ HB1.out HES.out HEM.out HEO.out ?_; intro w9 hb9 hf9))
 refine bodyPost_ret (v := .agg E.toArray) (results_cell_row Tryz.results99 _ _ (w.heap.size + 1) 45 E.toArray _ _ rfl hb9 Tryz.underlying45 rfl HES.out) rfl ?_
 have HT3 : Fr [w.heap.size, w.heap.size + 1] w3 w9 := (HFS3.out.mono (by intro k hk _; simp at hk; simp [hk])).trans hf9 (fun k hk _ => by simp at hk; simp [hk])
 have HT2 : Fr [w.heap.size, w.heap.size + 1] w2 w9 := ((HFS2.out.mono (by intro k hk _; simp at hk; simp [hk])).trans (HFc3.out.mono (T := [w.heap.size, w.heap.size + 1]) (by simp)) (fun k hk _ => hk)).trans HT3 (fun k hk _ => hk)
 have HT1 : Fr [w.heap.size, w.heap.size + 1] w1 w9 := ((HFS1.out.mono (by intro k hk _; simp at hk; simp [hk])).trans (HFc2.out.mono (T := [w.heap.size, w.heap.size + 1]) (by simp)) (fun k hk _ => hk)).trans HT2 (fun k hk _ => hk)
 refine ⟨⟨x.e, x.t, A1, n1, c1, ys1, A2, n2, c2, ys2, A3, n3, c3, ys3⟩, by rw [hE], by unfold Wba.con; simp only [HGL1.out.con, HGL2.out.con, HGL3.out.con], fun S0 h0 => ?_, HFw1.out.go HT1 (by simp)⟩
 have hlst1 := GotL.lst (w0 := wa) (ok := fun w S v => Wpr.Ok w S v) (fun h f s => h.keep f s) (fun _ _ v h => Wpr.len v) HGL1.out (g := w.heap.size) (q := w.heap.size + 1) (N := w.heap.size) (by have := HSZ1.out; omega) (by have := HSZ1.out; omega) (by have := HSZ1.out; omega) w9 HT1 S0 h0
 have hlst2 := GotL.lst (w0 := u1) (ok := fun w S v => Wop.Ok w S v) (fun h f s => h.keep f s) (fun _ _ v h => Wop.len h.h) HGL2.out (g := w.heap.size) (q := w.heap.size + 1) (N := w.heap.size) (by have := HSZ2.out; omega) (by have := HSZ2.out; omega) (by have := HSZ2.out; omega) w9 HT2 S0 h0
 have hlst3 := GotL.lst (w0 := u2) (ok := fun w S v => Wtb.Ok w S v) (fun h f s => h.keep f s) (fun _ _ v h => (show (Wtb.cells v).length = 2 from rfl)) HGL3.out (g := w.heap.size) (q := w.heap.size + 1) (N := w.heap.size) (by have := HSZ3.out; omega) (by have := HSZ3.out; omega) (by have := HSZ3.out; omega) w9 HT3 S0 h0
 exact ⟨HX.out.e, HX.out.t, hlst1.1, by rw [HNE1.out]; exact HX.out.n, hlst1.2, hlst2.1, by rw [HNE2.out]; exact HX.out.n2, hlst2.2, hlst3.1, by rw [HNE3.out]; exact HX.out.n3, hlst3.2⟩
def copyProposal_anyZ : Array Value := ((⟨0, 0, 0, 0, ⟨0, 0, none, 0, 0, [], none, 0, 0, [], none, 0, 0, []⟩, 0, 0⟩ : Wpo)).cells.toArray
set_option maxHeartbeats 4000000 in
theorem copyProposal_any : Copies 52 Wpo.cells (fun w S v => v.OkS w S) Wpo.con := by
 intro x w hx
 obtain ⟨C, hC⟩ : ∃ C, x.cells = C := ⟨_, rfl⟩
 rw [hC]
 have hcl : C.length = 11 := by rw [← hC]; rfl
 obtain ⟨wa, hwa⟩ : ∃ wa, wa = (w.alloc (Obj.cells C.toArray 47)).alloc (Obj.cells copyProposal_anyZ 47) := ⟨_, rfl⟩
 have hf0 : Fr [] w wa := by rw [hwa]; exact ((Fr.refl [] w).alloc _).alloc _
 have hb0 : Blk wa w.heap.size 47 x.cells.toArray := by rw [hwa, hC]; exact blk_alloc (Blk.new _ _ _)
 have hb1 : Blk wa (w.heap.size + 1) 47 copyProposal_anyZ := by
  have := Blk.new (w.alloc (Obj.cells C.toArray 47)) 47 copyProposal_anyZ
  rw [hwa]
  simpa using this
 have HX := Lib.hid hx
 have HB0 := Lib.hid hb0
 have HB1 := Lib.hid hb1
 have HF0 := Lib.hid hf0
 have HWA := Lib.hid hwa
 have HS2 : Hid (wa.heap.size = w.heap.size + 2) := Lib.hid (by rw [hwa]; simp)
 clear hx hC hcl hb0 hb1 hf0 hwa
 go_enter Tryz.func52, Tryz.ntmps52
 go_upto_region 1 with (fail)
 change Code.wp _ _ _ _ ((w.alloc (Obj.cells C.toArray 47)).alloc (Obj.cells copyProposal_anyZ 47))
 rw [← HWA.out]
 have HRk1 : Hid (wa.rangeAt w.heap.size 4 x.k.cells) := Lib.hid (ra_head (ra_tail (k := 4) HB0.out.range rfl))
 go_wp2_with (refine wpList_load_mid rfl 45 _ rfl w.heap.size 4 rfl x.k.cells _ HRk1.out Tryz.underlying45 rfl (row_bat.of rfl).2 ?_)
 refine (copyBatch_any x.k wa (HX.out.k.keep HF0.out (by simp))).mono ?_
 rintro e_ w1 ⟨y1, rfl, hyc, hyok, hf1⟩
 have HYC1 := Lib.hid hyc
 have HYO1 := Lib.hid hyok
 have HFc1 : Hid (Fr [] wa w1) := Lib.hid hf1
 have HSZ1 : Hid (w.heap.size + 2 ≤ wa.heap.size) := Lib.hid (by have := HS2.out; omega)
 clear hyc hyok hf1
 have HFw1 : Hid (Fr [] w w1) := Lib.hid (HF0.out.and HFc1.out (by simp))
 have HBc1 := Lib.hid (HB0.out.keep HFc1.out (by simp))
 have HB1 := Lib.hid (HB1.out.keep HFc1.out (by simp))
 have hb2 : Blk (w1.setCells w.heap.size 4 y1.cells) w.heap.size 47 (⟨x.e, x.r, x.v, x.p, y1, x.b, x.m⟩ : Wpo).cells.toArray := Blk.mid_at y1.cells x.k.cells [.int .i64 x.e, .int .i64 x.r, .int .i64 x.v, .int .i64 x.p] [.int .i64 x.b, .int .i64 x.m] 4 rfl rfl _ _ rfl rfl HBc1.out
 have hfs : Fr [w.heap.size] w1 (w1.setCells w.heap.size 4 y1.cells) := Fr.setCells (fun _ => by simp) _ 4 _ (Fr.refl _ _)
 have HFS1 := Lib.hid hfs
 have HBx1 := Lib.hid hb2
 clear hfs hb2
 go_upto_region 2 with (refine wpList_store_mid rfl 45 _ _ rfl w.heap.size 4 (y1.cells).toArray rfl rfl (Blk.thereM HBc1.out 4 _ (by rw [List.size_toArray, List.size_toArray]; exact (show 4 + 5 ≤ 11 by decide))) (by kernel_rfl) (all_oneCell_toArray (Wba.one _)) ?_)
 change Code.wp _ _ _ _ (w1.setCells w.heap.size 4 y1.cells)
 generalize w1.setCells w.heap.size 4 y1.cells = u1 at *
 have HFu1 : Hid (Fr [] w u1) := Lib.hid (HFw1.out.go HFS1.out (by simp))
 have HB1 := Lib.hid (HB1.out.keep HFS1.out (by simp))
 obtain ⟨E, hE⟩ : ∃ E, E = (⟨x.e, x.r, x.v, x.p, y1, x.b, x.m⟩ : Wpo).cells := ⟨_, rfl⟩
 have HEL : Hid (E.length = 11) := Lib.hid (by rw [hE]; rfl)
 have HEO : Hid (E.toArray.all (·.oneCell') = true) := Lib.hid (by rw [hE]; exact all_oneCell_toArray (Wpo.one _))
 have HES : Hid ((Tryz.prog.info? 47).map (·.size) = some E.toArray.size) := Lib.hid (by rw [List.size_toArray, HEL.out]; kernel_rfl)
 have HEM : Hid (copyProposal_anyZ.size = E.toArray.size) := Lib.hid (by rw [show E.toArray.size = E.length from List.size_toArray, HEL.out]; rfl)
 have HER : Hid (u1.rangeAt w.heap.size 0 E) := Lib.hid (by rw [hE]; exact HBx1.out.range)
 go_wp2_with (first | (refine wpList_load_mid rfl 47 _ rfl w.heap.size 0 rfl E _ HER.out Tryz.underlying47 rfl (row_poC.of HEL.out).2 ?_) | (refine wpList_store_blk rfl 47 _ _ rfl (w.heap.size + 1) E.toArray rfl rfl 47 copyProposal_anyZ HB1.out HES.out HEM.out HEO.out ?_; intro w9 hb9 hf9))
 refine bodyPost_ret (v := .agg E.toArray) (results_cell_row Tryz.results52 _ _ (w.heap.size + 1) 47 E.toArray _ _ rfl hb9 Tryz.underlying47 rfl HES.out) rfl ?_
 have HT1 : Fr [w.heap.size, w.heap.size + 1] w1 w9 := (HFS1.out.mono (by intro k hk _; simp at hk; simp [hk])).trans hf9 (fun k hk _ => by simp at hk; simp [hk])
 refine ⟨⟨x.e, x.r, x.v, x.p, y1, x.b, x.m⟩, by rw [hE], by unfold Wpo.con; simp only [HYC1.out], fun S0 h0 => ?_, HFw1.out.go HT1 (by simp)⟩
 have hk1 := (HYO1.out (w.heap.size :: (w.heap.size + 1) :: S0) (lt_two h0 HSZ1.out)).keep (S' := S0) (HT1.mono (T := w.heap.size :: (w.heap.size + 1) :: S0) (by intro k hk _; simp at hk; rcases hk with rfl | rfl <;> simp)) (fun k hk _ => by simp [hk])
 exact ⟨HX.out.e, HX.out.r, HX.out.v, HX.out.p, hk1, HX.out.b, HX.out.m⟩
def copyDecided_anyZ : Array Value := ((⟨0, 0, ⟨0, 0, none, 0, 0, [], none, 0, 0, [], none, 0, 0, []⟩, none, 0, 0, []⟩ : Wdc)).cells.toArray
set_option maxHeartbeats 4000000 in
theorem copyDecided_any : Copies 54 Wdc.cells (fun w S v => v.Ok w S) Wdc.con := by
 intro x w hx
 obtain ⟨C, hC⟩ : ∃ C, x.cells = C := ⟨_, rfl⟩
 rw [hC]
 have hcl : C.length = 8 := by rw [← hC]; rfl
 obtain ⟨wa, hwa⟩ : ∃ wa, wa = (w.alloc (Obj.cells C.toArray 59)).alloc (Obj.cells copyDecided_anyZ 59) := ⟨_, rfl⟩
 have hf0 : Fr [] w wa := by rw [hwa]; exact ((Fr.refl [] w).alloc _).alloc _
 have hb0 : Blk wa w.heap.size 59 x.cells.toArray := by rw [hwa, hC]; exact blk_alloc (Blk.new _ _ _)
 have hb1 : Blk wa (w.heap.size + 1) 59 copyDecided_anyZ := by
  have := Blk.new (w.alloc (Obj.cells C.toArray 59)) 59 copyDecided_anyZ
  rw [hwa]
  simpa using this
 have HX := Lib.hid hx
 have HB0 := Lib.hid hb0
 have HB1 := Lib.hid hb1
 have HF0 := Lib.hid hf0
 have HWA := Lib.hid hwa
 have HS2 : Hid (wa.heap.size = w.heap.size + 2) := Lib.hid (by rw [hwa]; simp)
 clear hx hC hcl hb0 hb1 hf0 hwa
 go_enter Tryz.func54, Tryz.ntmps54
 go_upto_region 1 with (fail)
 change Code.wp _ _ _ _ ((w.alloc (Obj.cells C.toArray 59)).alloc (Obj.cells copyDecided_anyZ 59))
 rw [← HWA.out]
 have HRk1 : Hid (wa.rangeAt w.heap.size 2 x.k.cells) := Lib.hid (ra_head (ra_tail (k := 2) HB0.out.range rfl))
 go_wp2_with (refine wpList_load_mid rfl 45 _ rfl w.heap.size 2 rfl x.k.cells _ HRk1.out Tryz.underlying45 rfl (row_bat.of rfl).2 ?_)
 refine (copyBatch_any x.k wa (HX.out.k.keep HF0.out (by simp))).mono ?_
 rintro e_ w1 ⟨y1, rfl, hyc, hyok, hf1⟩
 have HYC1 := Lib.hid hyc
 have HYO1 := Lib.hid hyok
 have HFc1 : Hid (Fr [] wa w1) := Lib.hid hf1
 have HSZ1 : Hid (w.heap.size + 2 ≤ wa.heap.size) := Lib.hid (by have := HS2.out; omega)
 clear hyc hyok hf1
 have HFw1 : Hid (Fr [] w w1) := Lib.hid (HF0.out.and HFc1.out (by simp))
 have HBc1 := Lib.hid (HB0.out.keep HFc1.out (by simp))
 have HB1 := Lib.hid (HB1.out.keep HFc1.out (by simp))
 have hb2 : Blk (w1.setCells w.heap.size 2 y1.cells) w.heap.size 59 (⟨x.e, x.r, y1, x.A, x.n, x.d, x.l⟩ : Wdc).cells.toArray := Blk.mid_at y1.cells x.k.cells [.int .i64 x.e, .int .i64 x.r] [.slice x.A x.n x.d] 2 rfl rfl _ _ rfl rfl HBc1.out
 have hfs : Fr [w.heap.size] w1 (w1.setCells w.heap.size 2 y1.cells) := Fr.setCells (fun _ => by simp) _ 2 _ (Fr.refl _ _)
 have HFS1 := Lib.hid hfs
 have HBx1 := Lib.hid hb2
 clear hfs hb2
 go_upto_region 2 with (refine wpList_store_mid rfl 45 _ _ rfl w.heap.size 2 (y1.cells).toArray rfl rfl (Blk.thereM HBc1.out 2 _ (by rw [List.size_toArray, List.size_toArray]; exact (show 2 + 5 ≤ 8 by decide))) (by kernel_rfl) (all_oneCell_toArray (Wba.one _)) ?_)
 change Code.wp _ _ _ _ (w1.setCells w.heap.size 2 y1.cells)
 generalize w1.setCells w.heap.size 2 y1.cells = u1 at *
 have HFu1 : Hid (Fr [] w u1) := Lib.hid (HFw1.out.go HFS1.out (by simp))
 have HB1 := Lib.hid (HB1.out.keep HFS1.out (by simp))
 have hc2 : u1.cell? ⟨w.heap.size, 7, none⟩ = some (.slice x.A x.n x.d) := by
  have h := HBx1.out.range 7 (.slice x.A x.n x.d) rfl
  simpa using h
 go_wp2_with fail
 refine (cloneVotes_any x.A x.n x.d x.l u1 (HX.out.l.keep' HFu1.out (by simp) (fun _ _ h => h)) (by have := HX.out.n; omega)).mono ?_
 rintro e_ w2 ⟨A2, c2, rfl, hN⟩
 obtain ⟨n2, hn1⟩ : ∃ n1, n1 = x.n := ⟨_, rfl⟩
 rw [← hn1] at hN ⊢
 have HNE2 := Lib.hid hn1
 have HN2 := Lib.hid hN
 have HFc2 : Hid (Fr [] u1 w2) := Lib.hid hN.2.1
 have HSZ2 : Hid (w.heap.size + 2 ≤ u1.heap.size) := Lib.hid (by have h1 := HSZ1.out; have h2 := HFc1.out.size; have h3 := HFS1.out.size; omega)
 clear hN hn1
 have HFw2 : Hid (Fr [] w w2) := Lib.hid (HFu1.out.and HFc2.out (by simp))
 have HBc2 := Lib.hid (HBx1.out.keep HFc2.out (by simp))
 have HB1 := Lib.hid (HB1.out.keep HFc2.out (by simp))
 have hb2 : Blk (w2.setCells w.heap.size 7 [.slice A2 n2 c2]) w.heap.size 59 (⟨x.e, x.r, y1, A2, n2, c2, x.l⟩ : Wdc).cells.toArray := by have h := HBc2.out.set 7 (.slice A2 n2 c2); exact h
 have hfs : Fr [w.heap.size] w2 (w2.setCells w.heap.size 7 [.slice A2 n2 c2]) := Fr.setCells (fun _ => by simp) _ 7 _ (Fr.refl _ _)
 have HFS2 := Lib.hid hfs
 have HBx2 := Lib.hid hb2
 clear hfs hb2
 have HSV2 : Hid ((Tryz.prog.info? 57).map (·.size) = some 1) := Lib.hid (by kernel_rfl)
 clear hc2
 go_upto_region 3 with (refine wpList_store_at rfl 57 _ _ rfl w.heap.size 7 (.slice A2 n2 c2) rfl rfl rfl 59 _ HBc2.out (by rw [List.size_toArray]; exact (show 7 < 8 by decide)) HSV2.out ?_)
 change Code.wp _ _ _ _ (w2.setCells w.heap.size 7 [.slice A2 n2 c2])
 generalize w2.setCells w.heap.size 7 [.slice A2 n2 c2] = u2 at *
 have HFu2 : Hid (Fr [] w u2) := Lib.hid (HFw2.out.go HFS2.out (by simp))
 have HB1 := Lib.hid (HB1.out.keep HFS2.out (by simp))
 obtain ⟨E, hE⟩ : ∃ E, E = (⟨x.e, x.r, y1, A2, n2, c2, x.l⟩ : Wdc).cells := ⟨_, rfl⟩
 have HEL : Hid (E.length = 8) := Lib.hid (by rw [hE]; rfl)
 have HEO : Hid (E.toArray.all (·.oneCell') = true) := Lib.hid (by rw [hE]; exact all_oneCell_toArray (Wdc.one _))
 have HES : Hid ((Tryz.prog.info? 59).map (·.size) = some E.toArray.size) := Lib.hid (by rw [List.size_toArray, HEL.out]; kernel_rfl)
 have HEM : Hid (copyDecided_anyZ.size = E.toArray.size) := Lib.hid (by rw [show E.toArray.size = E.length from List.size_toArray, HEL.out]; rfl)
 have HER : Hid (u2.rangeAt w.heap.size 0 E) := Lib.hid (by rw [hE]; exact HBx2.out.range)
 go_wp2_with (first | (refine wpList_load_mid rfl 59 _ rfl w.heap.size 0 rfl E _ HER.out Tryz.underlying59 rfl (row_dec.of HEL.out).2 ?_) | (refine wpList_store_blk rfl 59 _ _ rfl (w.heap.size + 1) E.toArray rfl rfl 59 copyDecided_anyZ HB1.out HES.out HEM.out HEO.out ?_; intro w9 hb9 hf9))
 refine bodyPost_ret (v := .agg E.toArray) (results_cell_row Tryz.results54 _ _ (w.heap.size + 1) 59 E.toArray _ _ rfl hb9 Tryz.underlying59 rfl HES.out) rfl ?_
 have HT2 : Fr [w.heap.size, w.heap.size + 1] w2 w9 := (HFS2.out.mono (by intro k hk _; simp at hk; simp [hk])).trans hf9 (fun k hk _ => by simp at hk; simp [hk])
 have HT1 : Fr [w.heap.size, w.heap.size + 1] w1 w9 := ((HFS1.out.mono (by intro k hk _; simp at hk; simp [hk])).trans (HFc2.out.mono (T := [w.heap.size, w.heap.size + 1]) (by simp)) (fun k hk _ => hk)).trans HT2 (fun k hk _ => hk)
 refine ⟨⟨x.e, x.r, y1, A2, n2, c2, x.l⟩, by rw [hE], by unfold Wdc.con; simp only [HYC1.out], fun S0 h0 => ?_, HFw1.out.go HT1 (by simp)⟩
 have hk1 := (HYO1.out (w.heap.size :: (w.heap.size + 1) :: S0) (lt_two h0 HSZ1.out)).keep (S' := S0) (HT1.mono (T := w.heap.size :: (w.heap.size + 1) :: S0) (by intro k hk _; simp at hk; rcases hk with rfl | rfl <;> simp)) (fun k hk _ => by simp [hk])
 have hnk : ∀ k ∈ bk A2, w.heap.size + 2 ≤ k := fun k hk => by have h1 := HN2.out.2.2 k hk; have h2 := HSZ2.out; omega
 exact ⟨HX.out.e, HX.out.r, hk1, (Lst.of_own (ok := fun (_ : World) (v : Wvt) => v.Ok) HN2.out.1 (by rw [HNE2.out]; exact HX.out.l.1) (fun u hu => HX.out.l.2.1 u hu)).keep' HT2 (fun hp a ha hm => by have h1 := hnk a.block (by rw [ha]; simp [bk]); simp at hm; omega) (fun _ _ h => h), by rw [HNE2.out]; exact HX.out.n, fun hp a ha hm => by have ha : A2 = some a := ha; have h1 := hnk a.block (by rw [ha]; simp [bk]); have h2 := h0 _ hm; omega⟩
end Go.Proofs.YtpcnedpheplofaaGreat

namespace Go.Proofs.YtpcnedpheplofaaGreat
open Go.RowKit
set_option maxRecDepth 100000
def pW {α : Type} (z : α) (p : Ps → α × Ps) (s : Ps) : α × Ps := (if (p s).2.2 then z else (p s).1, (p s).2)
def zWce : Wce := ⟨⟨0, 0, List.replicate 32 0, 0, 0, 0⟩, none, 0, 0, []⟩
def zWpr : Wpr := ⟨0, 0, 0, none, 0, 0, [], 0, 0⟩
def zWba : Wba := ⟨0, 0, none, 0, 0, [], none, 0, 0, [], none, 0, 0, []⟩
end Go.Proofs.YtpcnedpheplofaaGreat

namespace Go.Proofs.YtpcnedpheplofaaGreat
open Go.RowKit
set_option maxRecDepth 100000
structure Cmg where
 q : Int
 f : Int
 t : Int
 cm : Wcm
 st : Wst
 ce : Cce
 ak : Wst
 e : Int
 r : Int
 tm : Nat
 pr : Cpr
 po : Cpo
 vt : Wvt
 i : Int
 en : Wen
 op : Cop
 dn : Wdn
 rp : List UInt8
 de : Cdc
def Wmg.con (x : Wmg) : Cmg := ⟨x.q, x.f, x.t, x.cm, x.st, x.ce.con, x.ak, x.e, x.r, x.tm, x.pr.con, x.po.con, x.vt, x.i, x.en, x.op.con, x.dn, x.rp, x.de.con⟩
def pM (c : Cmg) (s : Ps) : Cmg × Ps := if c.q = 1 then ({c with cm := (pCm s).1}, (pCm s).2) else if c.q = 2 then ({c with st := (pSt s).1}, (pSt s).2) else if c.q = 3 then ({c with ce := (pCe s).1}, (pCe s).2) else if c.q = 4 then ({c with ak := (pSt s).1}, (pSt s).2) else if c.q = 5 then ({c with e := (pI s).1, r := (pI (pI s).2).1, tm := (pN (pI (pI s).2).2).1}, (pN (pI (pI s).2).2).2) else if c.q = 6 then ({c with pr := (pPr s).1}, (pPr s).2) else if c.q = 7 then ({c with po := (pPo s).1}, (pPo s).2) else if c.q = 8 then ({c with vt := (pVt s).1}, (pVt s).2) else if c.q = 9 then ({c with i := (pI s).1, en := (pEn (pI s).2).1}, (pEn (pI s).2).2) else if c.q = 10 then ({c with op := (pOp s).1}, (pOp s).2) else if c.q = 11 then ({c with i := (pI s).1}, (pI s).2) else if c.q = 12 then ({c with dn := (pDn s).1}, (pDn s).2) else if c.q = 13 then ({c with i := (pI s).1, rp := (pR (pI s).2).1}, (pR (pI s).2).2) else if c.q = 14 then ({c with de := (pDc s).1}, (pDc s).2) else (c, s)
structure Wmg.Li (w : World) (S : List Nat) (x : Wmg) : Prop where
 cm : x.cm.Ok
 st : x.st.Ok
 ce : x.ce.Li w S
 ak : x.ak.Ok
 pr : x.pr.Li w S
 po : x.po.Li w S
 vt : x.vt.Ok
 en : x.en.Ok
 op : x.op.Ok w S
 dn : x.dn.Ok
 de : x.de.Li w S
end Go.Proofs.YtpcnedpheplofaaGreat

namespace Go.Proofs.YtpcnedpheplofaaGreat
open Go.RowKit
set_option maxRecDepth 100000
theorem zi0 : i64In 0 := by unfold i64In; omega
theorem mz_ok (w : World) (S : List Nat) (q f t : Int) (hq : i64In q) (hf : i64In f) (ht : i64In t) : (mz q f t).Ok w S := by
 have b0 : mb0.Ok w S := ⟨zi0, (show 0 < 18446744073709551616 by decide), Lst.nil _, Nat.zero_le _, fun h => absurd h (show ¬ 0 < 0 by decide), Lst.nil _, Nat.zero_le _, fun h => absurd h (show ¬ 0 < 0 by decide), Lst.nil _, Nat.zero_le _, fun h => absurd h (show ¬ 0 < 0 by decide)⟩
 exact ⟨hq, hf, ht, ⟨zi0, zi0, rfl, zi0, zi0, zi0⟩, ⟨zi0, zi0, zi0, rfl, (show 0 < 18446744073709551616 by decide), zi0, zi0⟩, ⟨⟨zi0, zi0, rfl, zi0, zi0, zi0⟩, Lst.nil _, Nat.zero_le _, fun h => absurd h (show ¬ 0 < 0 by decide)⟩, ⟨zi0, zi0, zi0, rfl, (show 0 < 18446744073709551616 by decide), zi0, zi0⟩, zi0, zi0, (show 0 < 18446744073709551616 by decide),
  ⟨zi0, zi0, (show 0 < 18446744073709551616 by decide), Lst.nil _, Nat.zero_le _, fun h => absurd h (show ¬ 0 < 0 by decide), zi0, zi0⟩, ⟨zi0, zi0, zi0, zi0, b0, zi0, zi0⟩, ⟨zi0, zi0, zi0, zi0, rfl, zi0, zi0⟩, zi0, ⟨zi0, zi0, rfl, (show 0 < 18446744073709551616 by decide)⟩, ⟨zi0, By.nil _ _, (show 0 ≤ 260 by decide), fun k hk => by simp [mz, bk] at hk, fun k hk => by simp [mz, bk] at hk, rfl, (show 0 ≤ 0 by decide)⟩, ⟨zi0, zi0, zi0, zi0⟩, (show 0 ≤ 260 by decide),
  ⟨zi0, zi0, b0, Lst.nil _, Nat.zero_le _, fun h => absurd h (show ¬ 0 < 0 by decide)⟩⟩
theorem built_mgk (q : Int) : Tryz.prog.built 61 [(0, .int .i64 q)] = some (mz q 0 0).cells.toArray := by kernel_rfl
theorem mz_bytes_pos (q f t : Int) : 0 < (mz q f t).bytes.length := by
 have h : 0 < (encI (mz q f t).q).length := by unfold encI; (first | exact enc_pos _ | (split <;> first | exact enc_pos _ | simp))
 simp only [Wmg.bytes, List.length_append]
 omega
set_option maxHeartbeats 4000000 in
theorem mwakes_any (w : World) : Calls Tryz.prog 13 #[] w fun e w' => e = .returned (.bool true) ∧ Fr [] w w' := by
 go_enter Tryz.func13, Tryz.ntmps13
 go_wp2_with fail
 refine (munpack_nil w).mono ?_
 rintro e_ w1 ⟨rfl, hf1⟩
 have HF1 := Lib.hid hf1
 obtain ⟨Z, hZ⟩ : ∃ Z, Z = (mz 0 0 0).cells.toArray := ⟨_, rfl⟩
 have HYT : Hid ((Tryz.prog.info? 61).map (·.size) = some Z.size) := Lib.hid (by rw [hZ]; exact msg_size (mz_len 0 0 0))
 have HYO : Hid (Z.all (·.oneCell') = true) := Lib.hid (by rw [hZ]; exact all_oneCell_toArray (Wmg.one _))
 have HBN : Hid (Blk (w1.alloc (Obj.cells (mz 0 0 0).cells.toArray 61)) w1.heap.size 61 Z) := Lib.hid (by rw [hZ]; exact Blk.new _ _ _)
 rw [← hZ]
 obtain ⟨C, hC⟩ : ∃ C : List Value, (mz 11 0 0).cells = C := ⟨_, rfl⟩
 have HBU : Hid (Tryz.prog.built 61 [(0, .int .i64 11)] = some C.toArray) := Lib.hid (by rw [← hC]; exact built_mgk 11)
 have HC := Lib.hid hC
 clear hf1 hZ hC
 go_wp2_with (first
  | (refine wpList_builtg rfl 61 _ rfl _ _ HBU.out rfl ?_)
  | (refine wpList_store_blk rfl 61 _ _ rfl w1.heap.size Z rfl rfl 61 Z HBN.out HYT.out rfl HYO.out ?_
     intro w2 hb2 hf2
     have HF2 := Lib.hid ((((Fr.refl [w1.heap.size] w1).alloc _)).trans hf2 (fun x hx _ => hx))
     clear hb2 hf2))
 refine (mpack_any (mz 11 0 0) w2 (mz_ok w2 [] 11 0 0 (by unfold i64In; omega) zi0 zi0) C HC.out).mono ?_
 intro e_ w3 hp
 unfold PackPost at hp
 rw [if_pos (show 1 ≤ (mz 11 0 0).q ∧ (mz 11 0 0).q ≤ 14 from (by decide : 1 ≤ (11 : Int) ∧ (11 : Int) ≤ 14))] at hp
 obtain ⟨A3, c3, rfl, hn3⟩ := hp
 have HF3 : Hid (Fr [] w w3) := Lib.hid ((HF1.out.trans (HF2.out) (fun q hq hl => by have := HF1.out.size; simp at hq; omega)).and hn3.2.1 (by simp))
 have hpos : (0 : Int) < (((mz 11 0 0).bytes.length : Nat) : Int) := by have := mz_bytes_pos 11 0 0; omega
 have hpos2 := mz_bytes_pos 11 0 0
 clear hn3
 generalize (mz 11 0 0).bytes.length = n at *
 go_wp2_with fail
 go_ret
 exact ⟨rfl, HF3.out⟩
end Go.Proofs.YtpcnedpheplofaaGreat

namespace Go.Proofs.YtpcnedpheplofaaGreat
open Go.RowKit
end Go.Proofs.YtpcnedpheplofaaGreat

namespace Go.Proofs.YtpcnedpheplofaaGreat
open Go.RowKit
set_option maxRecDepth 100000
def tn0 (f t e r : Int) (tm : Nat) : Wmg := {mz 5 f t with e := e, r := r, tm := tm}
def tn1 (f t i : Int) : Wmg := {mz 11 f t with i := i}
def tn2 (f t i s : Int) (tm : Nat) : Wmg := {mz 9 f t with i := i, en := ⟨0, s, mh0, tm⟩}
def tn3 (f t r p : Int) : Wmg := {mz 8 f t with vt := ⟨1, 0, r, p, mh0, 0, 0⟩}
def tn (k : Int) (a : Wmg) : Wmg :=
 if k = 0 then tn0 (a.f % 3) (a.t % 3) (a.e % 3) (a.r % 3) (a.tm % 3)
 else if k = 1 then tn1 (a.f % 3) (a.t % 3) (a.i % 3)
 else if k = 2 then tn2 (a.f % 3) (a.t % 3) (a.i % 3) (a.en.s % 3) (a.en.t % 3)
 else tn3 (a.f % 3) (a.t % 3) (a.vt.r % 3) (a.vt.p % 3)
end Go.Proofs.YtpcnedpheplofaaGreat

namespace Go.Proofs.YtpcnedpheplofaaGreat
open Go.RowKit
set_option maxRecDepth 100000
theorem Wmg.at_len {w : World} {g : Nat} {x : Wmg} (hr : w.rangeAt g 0 x.cells) (hx : x.Len) : x.At w g := by
 unfold Wmg.cells at hr
 have t0 := ra_tail hr (k := 1) (rfl)
 have t1 := ra_tail t0 (k := 1) (rfl)
 have t2 := ra_tail t1 (k := 1) (rfl)
 have t3 := ra_tail t2 (k := 37) (Wcm.len hx.cm)
 have t4 := ra_tail t3 (k := 38) (Wst.len hx.st)
 have t5 := ra_tail t4 (k := 38) (Wce.len hx.ce)
 have t6 := ra_tail t5 (k := 38) (Wst.len hx.ak)
 have t7 := ra_tail t6 (k := 1) (rfl)
 have t8 := ra_tail t7 (k := 1) (rfl)
 have t9 := ra_tail t8 (k := 1) (rfl)
 have t10 := ra_tail t9 (k := 6) (Wpr.len x.pr)
 have t11 := ra_tail t10 (k := 11) (Wpo.len x.po)
 have t12 := ra_tail t11 (k := 38) (Wvt.len hx.vt)
 have t13 := ra_tail t12 (k := 1) (rfl)
 have t14 := ra_tail t13 (k := 35) (Wen.len hx.en)
 have t15 := ra_tail t14 (k := 34) (Wop.len hx.op)
 have t16 := ra_tail t15 (k := 4) (Wdn.len x.dn)
 have t17 := ra_tail t16 (k := 1) (rfl)
 exact ⟨ra_head hr, ra_head t0, ra_head t1, ra_head t2, ra_head t3, ra_head t4, ra_head t5, ra_head t6, ra_head t7, ra_head t8, ra_head t9, ra_head t10, ra_head t11, ra_head t12, ra_head t13, ra_head t14, ra_head t15, ra_head t16, t17⟩
structure Wmg.Tin (a : Wmg) : Prop where
 len : a.Len
 f : i64In a.f
 t : i64In a.t
 e : i64In a.e
 r : i64In a.r
 i : i64In a.i
 vr : i64In a.vt.r
 vp : i64In a.vt.p
 es : i64In a.en.s
def mz00 : Array Value := (mz 0 0 0).cells.toArray
end Go.Proofs.YtpcnedpheplofaaGreat
