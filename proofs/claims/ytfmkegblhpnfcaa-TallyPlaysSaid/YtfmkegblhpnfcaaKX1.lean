/- Texts that the proof stands on: Each read of a reader as one function of what is left; and what reads of written bytes, whole or cut off, come to. | Equality of structs, field by field: names, signatures, stamps, votes, denials. | Package tally: ballots and polls as keys of maps; a value stored anew. | Binary digits that are 1: how math/bits.OnesCount64 reckons, and what that is. Plain lemmas; no program. | bytes.Compare; package sha: Less. | Votes as a list, the newest first: what is counted, which replicas voted, which hash has the most, whom one has heard of. No program. | Package book: the contract of Sign. | Package commit: signedBy, Right, Matches. | Package commit: Make. | math/bits.OnesCount64; package tally: what it makes of parts. | A region that draws its order and stores at its end into blocks that it has read: two conditions on the world, one that holds all along, one that holds till a given operation has come up. Plain lemmas; no program. | Lists of structs or arrays that lie in memory: what their cells are; how one is loaded; how they are opened. | Package tally: what a tally in memory is; its parts; For, All, Most, Heard. | Package tally: For, All, Most. | Package tally: better. | Maps: what 'm[k]' is between the making of its entry and the store into it. Plain lemmas. | Package tally: what one more vote makes of a tally's parts. No program. | A step ahead of the first store of a region that stores at its end: both conditions are kept. | Package tally: Add. | Package tally: Heard. | Package tally: Add of anything; New. | gavellaw13.wakes; configurations' numbers by the document. -/
import Derived.Test.YtfmkegblhpnfcaaBase
import Derived.Test.YtfmkegblhpnfcaaActs
import Derived.Stop.BytesEq
import Derived.Test.YtfmkegblhpnfcaaPut
import Derived.Laws.StructEq
import Derived.Test.YtfmkegblhpnfcaaTab
import Derived.Test.YtfmkegblhpnfcaaCm2
import Derived.Test.YtfmkegblhpnfcaaWCf
import Derived.Test.YtfmkegblhpnfcaaBook
import Derived.Test.YtfmkegblhpnfcaaShaN
import Derived.Lib.BytesEntry
import Derived.Laws.Externs
import Derived.Test.YtfmkegblhpnfcaaBook2
import Derived.Test.YtfmkegblhpnfcaaCm3
import Derived.IntWalk
import Derived.Test.YtfmkegblhpnfcaaReg
import Derived.Test.YtfmkegblhpnfcaaReg2
import Derived.Laws.ResultCell
import Derived.Deep.CutBlock
import Derived.ChangeKeysEq
set_option linter.unusedSimpArgs false
set_option linter.unusedVariables false
set_option maxRecDepth 100000

namespace Go.Proofs.Ytfmkegblhpnfcaa
set_option maxRecDepth 100000
open Go.RowKit

def rdN (R : List UInt8) : Nat := match dec R with | some (v, _) => v | none => 0
def rdL (R : List UInt8) : List UInt8 := match dec R with | some (_, s) => R.drop s | none => []
def rdB (R : List UInt8) (bad : Bool) : Bool := match dec R with | some _ => bad | none => true
def inN (R : List UInt8) (m : Int) : Nat := match dec R with | some (v, _) => if (v : Int) ≤ m then v else 0 | none => 0
def inL (R : List UInt8) (m : Int) : List UInt8 := match dec R with | some (v, s) => if (v : Int) ≤ m then R.drop s else [] | none => []
def inB (R : List UInt8) (m : Int) (bad : Bool) : Bool := match dec R with | some (v, _) => if (v : Int) ≤ m then bad else true | none => true
def rwV (R : List UInt8) (m : Int) : List UInt8 := match dec R with | some (v, s) => if (v : Int) ≤ m ∧ s + v ≤ R.length then (R.drop s).take v else [] | none => []
def rwL (R : List UInt8) (m : Int) : List UInt8 := match dec R with | some (v, s) => if (v : Int) ≤ m ∧ s + v ≤ R.length then R.drop (s + v) else [] | none => []
def rwB (R : List UInt8) (m : Int) (bad : Bool) : Bool := match dec R with | some (v, s) => if (v : Int) ≤ m ∧ s + v ≤ R.length then bad else true | none => true

section
variable {w : World} {B g : Nat} {R : List UInt8} {bad : Bool}
end

/-! ### hashes held against each other -/
theorem u8_size1 (w : World) : (sizeOf 5).run Try.prog w = .ok 1 w := by
  have h := u8_size
  cases hq : Try.prog.info? 5 with
  | none => rw [hq] at h; cases h
  | some i => rw [hq] at h; simp at h; simp [sizeOf, typeInfo, hq, h]
theorem hash_eql (xs ys : List UInt8) (hx : xs.length = 32) (hy : ys.length = 32) (w : World) :
    (Op.equalIn 10000 30 (.agg (xs.map by8).toArray) (.agg (ys.map by8).toArray)).run Try.prog w = .ok (decide (xs = ys)) w := by
  have h := run_equalIn_bytes (P := Try.prog) w 9998 30 5 32 Try.underlying30 Try.underlying5 u8_size1 xs ys hx hy
  rw [show decide (xs = ys) = (xs == ys) by rw [Bool.eq_iff_iff]; simp]
  exact h

/-! ### what reads come to -/
theorem hashOf_len (R : List UInt8) : (hashOf R).length = 32 := by
  have := took_le R
  unfold hashOf
  rw [List.length_append, List.length_drop, List.length_replicate]
  omega
theorem rd_enc {m : Nat} (h : m < 18446744073709551616) (r : List UInt8) : rdN (enc m ++ r) = m ∧ rdL (enc m ++ r) = r ∧ ∀ bad, rdB (enc m ++ r) bad = bad := by
  unfold rdN rdL rdB
  rw [dec_enc h r]
  exact ⟨rfl, List.drop_left, fun _ => rfl⟩
theorem rd_none {R : List UInt8} (h : dec R = none) : rdN R = 0 ∧ rdL R = [] ∧ ∀ bad, rdB R bad = true := by
  unfold rdN rdL rdB
  rw [h]
  exact ⟨rfl, rfl, fun _ => rfl⟩
theorem in_enc {n : Nat} {m : Int} (h : n < 18446744073709551616) (hm : n ≤ m) (r : List UInt8) : inN (enc n ++ r) m = n ∧ inL (enc n ++ r) m = r ∧ ∀ bad, inB (enc n ++ r) m bad = bad := by
  unfold inN inL inB
  rw [dec_enc h r]
  simp only [if_pos hm]
  exact ⟨by trivial, List.drop_left, fun _ => by trivial⟩
theorem in_none {R : List UInt8} {m : Int} (h : dec R = none) : inN R m = 0 ∧ inL R m = [] ∧ ∀ bad, inB R m bad = true := by
  unfold inN inL inB
  rw [h]
  exact ⟨rfl, rfl, fun _ => rfl⟩
theorem rw_enc {b : List UInt8} {m : Int} (h : b.length < 18446744073709551616) (hm : b.length ≤ m) (r : List UInt8) : rwV (enc b.length ++ b ++ r) m = b ∧ rwL (enc b.length ++ b ++ r) m = r ∧ ∀ bad, rwB (enc b.length ++ b ++ r) m bad = bad := by
  unfold rwV rwL rwB
  rw [List.append_assoc, dec_enc h (b ++ r)]
  have hc : (b.length : Int) ≤ m ∧ (enc b.length).length + b.length ≤ (enc b.length ++ (b ++ r)).length := ⟨hm, by simp only [List.length_append]; omega⟩
  simp only [if_pos hc]
  rw [List.drop_left, List.take_left, ← List.drop_drop, List.drop_left, List.drop_left]
  exact ⟨by trivial, by trivial, fun _ => by trivial⟩
theorem rw_none {R : List UInt8} {m : Int} (h : dec R = none ∨ ∃ v s, dec R = some (v, s) ∧ R.length < s + v) : rwV R m = [] ∧ rwL R m = [] ∧ ∀ bad, rwB R m bad = true := by
  unfold rwV rwL rwB
  rcases h with h | ⟨v, s, h, hl⟩
  · rw [h]; exact ⟨rfl, rfl, fun _ => rfl⟩
  · rw [h]
    have hc : ¬ ((v : Int) ≤ m ∧ s + v ≤ R.length) := by omega
    simp only [if_neg hc]
    exact ⟨trivial, trivial, fun _ => trivial⟩
theorem rw_over {R : List UInt8} {v k : Nat} {m : Int} (h : dec R = some (v, k)) (hm : m < v) : rwV R m = [] ∧ rwL R m = [] ∧ ∀ bad, rwB R m bad = true := by
  unfold rwV rwL rwB
  rw [h]
  have hc : ¬ ((v : Int) ≤ m ∧ k + v ≤ R.length) := by omega
  simp only [if_neg hc]
  exact ⟨trivial, trivial, fun _ => trivial⟩
theorem rw_cut {b : List UInt8} {m : Int} {t : Nat} (h : b.length < 18446744073709551616) (ht : t < (enc b.length ++ b).length) :
    rwV ((enc b.length ++ b).take t) m = [] ∧ rwL ((enc b.length ++ b).take t) m = [] ∧ ∀ bad, rwB ((enc b.length ++ b).take t) m bad = true := by
  apply rw_none
  by_cases hlt : t < (enc b.length).length
  · left
    rw [List.take_append_of_le_length (by omega)]
    exact dec_prefix hlt
  · right
    refine ⟨b.length, (enc b.length).length, ?_, by rw [List.length_append] at ht; rw [List.length_take, List.length_append]; omega⟩
    rw [List.take_append, List.take_of_length_le (by omega)]
    exact dec_enc h _
theorem hash_ok {h : List UInt8} (hh : h.length = 32) (r : List UInt8) : hashOf (h ++ r) = h ∧ tookL (h ++ r) = r ∧ ∀ bad, tookB (h ++ r) bad = bad := by
  unfold hashOf took tookL tookB
  have hc : ¬ (h ++ r).length < 32 := by rw [List.length_append]; omega
  rw [if_neg hc, if_neg hc]
  refine ⟨?_, by rw [← hh, List.drop_left], fun _ => by rw [if_neg hc]⟩
  rw [← hh, List.take_left, hh]
  simp
theorem hash_short {R : List UInt8} (h : R.length < 32) : tookL R = [] ∧ ∀ bad, tookB R bad = true := by
  unfold tookL tookB
  rw [if_pos h]
  exact ⟨rfl, fun _ => by rw [if_pos h]⟩

/-- what a call writes, its rows cut at r, its numbers at m -/
def actBytes (m : Int) (r : Nat) (v : ActV) : List UInt8 :=
  if v.d % 4 = 0 then enc v.u else if v.d % 4 = 1 then enc (v.n % m).toNat else if v.d % 4 = 2 then enc (v.b.take r).length ++ v.b.take r else v.h
def written (m : Int) (r : Nat) (l : List ActV) : List UInt8 := (l.map (actBytes m r)).flatten
theorem written_snoc {m : Int} {r : Nat} {l : List ActV} {k : Nat} {v : ActV} (h : l[k]? = some v) : written m r (l.take (k + 1)) = written m r (l.take k) ++ actBytes m r v := by
  unfold written
  rw [List.take_add_one, h]
  simp
theorem written_drop {m : Int} {r : Nat} {l : List ActV} {k : Nat} {v : ActV} (h : l[k]? = some v) : written m r (l.drop k) = actBytes m r v ++ written m r (l.drop (k + 1)) := by
  unfold written
  obtain ⟨hk, rfl⟩ := List.getElem?_eq_some_iff.1 h
  rw [List.drop_eq_getElem_cons hk, List.map_cons, List.flatten_cons]
theorem actBytes_len {w : World} {m : Int} {r : Nat} {v : ActV} (h : ActOk w v) (hr : r ≤ 100) (hm : 0 < m) (hm2 : m < 9223372036854775808) : (actBytes m r v).length ≤ 110 := by
  unfold actBytes
  have h1 := Int.emod_nonneg v.n (show m ≠ 0 by omega)
  have h2 := Int.emod_lt_of_pos v.n hm
  split
  · have := enc_ten h.u; omega
  · split
    · have := enc_ten (m := (v.n % m).toNat) (by omega); omega
    · split
      · have h3 : (v.b.take r).length ≤ r := List.length_take_le _ _
        have := enc_ten (m := (v.b.take r).length) (by omega)
        rw [List.length_append]; omega
      · rw [h.h]; omega
theorem actBytes_pos {w : World} {m : Int} {r : Nat} {v : ActV} (h : ActOk w v) : 0 < (actBytes m r v).length := by
  unfold actBytes
  split
  · exact enc_pos _
  · split
    · exact enc_pos _
    · split
      · have := enc_pos (v.b.take r).length; rw [List.length_append]; omega
      · rw [h.h]; omega

/-- the reader's state: W is what the calls that are left wrote; z: nothing is cut off -/
def Rst (W : List UInt8) (z : Bool) (R : List UInt8) (bad : Bool) : Prop :=
  (bad = false ∧ ∃ t, R = W.take t ∧ (z = true → t = W.length) ∧ (z = false → t < W.length)) ∨ (z = false ∧ bad = true ∧ R = [])
theorem Rst.parts {X W : List UInt8} {z bad : Bool} {R : List UInt8} (h : Rst (X ++ W) z R bad) (hX : 0 < X.length) :
    (bad = false ∧ ∃ R', R = X ++ R' ∧ Rst W z R' false) ∨ (z = false ∧ ∃ t, t < X.length ∧ R = X.take t) := by
  rcases h with ⟨rfl, t, rfl, h1, h2⟩ | ⟨rfl, rfl, rfl⟩
  · by_cases ht : X.length ≤ t
    · refine .inl ⟨rfl, W.take (t - X.length), by rw [List.take_append, List.take_of_length_le ht], .inl ⟨rfl, t - X.length, rfl, fun hz => ?_, fun hz => ?_⟩⟩
      · have := h1 hz; rw [List.length_append] at this; omega
      · have := h2 hz; rw [List.length_append] at this; omega
    · refine .inr ⟨?_, t, by omega, by rw [List.take_append_of_le_length (by omega)]⟩
      cases z
      · rfl
      · have := h1 rfl; rw [List.length_append] at this; omega
  · exact .inr ⟨rfl, 0, hX, by simp⟩
theorem Rst.bad {W : List UInt8} : Rst W false [] true := .inr ⟨rfl, rfl, rfl⟩
theorem Rst.end_ {z bad : Bool} {R : List UInt8} (h : Rst [] z R bad) : R = [] ∧ bad = !z := by
  rcases h with ⟨rfl, t, rfl, h1, h2⟩ | ⟨rfl, rfl, rfl⟩
  · cases z
    · have := h2 rfl; simp at this
    · simp
  · exact ⟨rfl, rfl⟩
theorem step_num {u : Nat} {W R : List UInt8} {z bad : Bool} (hu : u < 18446744073709551616) (h : Rst (enc u ++ W) z R bad) : (z = true → rdN R = u) ∧ Rst W z (rdL R) (rdB R bad) ∧ (rdL R).length ≤ R.length := by
  rcases h.parts (enc_pos u) with ⟨rfl, R', rfl, hs⟩ | ⟨rfl, t, ht, rfl⟩
  · obtain ⟨h1, h2, h3⟩ := rd_enc hu R'
    rw [h1, h2, h3]
    exact ⟨fun _ => rfl, hs, by simp⟩
  · obtain ⟨h1, h2, h3⟩ := rd_none (dec_prefix ht)
    rw [h2, h3]
    exact ⟨fun h => (by cases h), Rst.bad, by simp⟩
theorem step_int {n : Nat} {m : Int} {W R : List UInt8} {z bad : Bool} (hn : n < 18446744073709551616) (hm : n ≤ m) (h : Rst (enc n ++ W) z R bad) : (z = true → inN R m = n) ∧ Rst W z (inL R m) (inB R m bad) ∧ (inL R m).length ≤ R.length := by
  rcases h.parts (enc_pos n) with ⟨rfl, R', rfl, hs⟩ | ⟨rfl, t, ht, rfl⟩
  · obtain ⟨h1, h2, h3⟩ := in_enc hn hm R'
    rw [h1, h2, h3]
    exact ⟨fun _ => rfl, hs, by simp⟩
  · obtain ⟨h1, h2, h3⟩ := in_none (m := m) (dec_prefix ht)
    rw [h2, h3]
    exact ⟨fun h => (by cases h), Rst.bad, by simp⟩
theorem step_row {b W R : List UInt8} {m : Int} {z bad : Bool} (hb : b.length < 18446744073709551616) (hm : b.length ≤ m) (h : Rst ((enc b.length ++ b) ++ W) z R bad) : (z = true → rwV R m = b) ∧ Rst W z (rwL R m) (rwB R m bad) ∧ (rwL R m).length ≤ R.length := by
  rcases h.parts (by have := enc_pos b.length; rw [List.length_append]; omega) with ⟨rfl, R', rfl, hs⟩ | ⟨rfl, t, ht, rfl⟩
  · obtain ⟨h1, h2, h3⟩ := rw_enc hb hm R'
    rw [h1, h2, h3]
    exact ⟨fun _ => rfl, hs, by simp only [List.length_append]; omega⟩
  · obtain ⟨h1, h2, h3⟩ := rw_cut (m := m) hb ht
    rw [h2, h3]
    exact ⟨fun h => (by cases h), Rst.bad, by simp⟩
theorem step_hash {h W R : List UInt8} {z bad : Bool} (hh : h.length = 32) (hr : Rst (h ++ W) z R bad) : (z = true → hashOf R = h) ∧ Rst W z (tookL R) (tookB R bad) ∧ (tookL R).length ≤ R.length := by
  rcases hr.parts (by omega) with ⟨rfl, R', rfl, hs⟩ | ⟨rfl, t, ht, rfl⟩
  · obtain ⟨h1, h2, h3⟩ := hash_ok hh R'
    rw [h1, h2, h3]
    exact ⟨fun _ => rfl, hs, by simp⟩
  · obtain ⟨h2, h3⟩ := hash_short (R := h.take t) (by rw [List.length_take]; omega)
    rw [h2, h3]
    exact ⟨fun h => (by cases h), Rst.bad, by simp⟩
theorem rwV_len (R : List UInt8) (m : Int) : (rwV R m).length ≤ R.length := by
  unfold rwV
  split
  · split
    · rw [List.length_take, List.length_drop]; omega
    · simp
  · simp
end Go.Proofs.Ytfmkegblhpnfcaa

namespace Go.Proofs.Ytfmkegblhpnfcaa
open Go.RowKit
set_option maxRecDepth 100000

theorem eqFields_bool {P : Program} {d : Nat} {xs ys : Array Value} {f : Field} {fs : List Field} {u v : Value} {b : Bool} {w : World} (hn : f.name ≠ "_") (p : (part f.type xs f.offset).run P w = .ok u w) (p' : (part f.type ys f.offset).run P w = .ok v w)
    (q : (Op.equalIn d f.type u v).run P w = .ok b w) : (Op.eqFields d xs ys (f :: fs)).run P w = if b then (Op.eqFields d xs ys fs).run P w else .ok false w := by
  rw [Op.eqFields, if_pos hn]
  simp only [Sem.run_bind, p, p', Result.andThen_ok, q]
  cases b <;> simp
def FieldsEq (P : Program) (w : World) (d : Nat) (C D : Array Value) : List (TypeId × Nat) → List Bool → Prop
  | [], [] => True
  | (t, o) :: fs, b :: bs => (∃ u v, (part t C o).run P w = .ok u w ∧ (part t D o).run P w = .ok v w ∧ (Op.equalIn d t u v).run P w = .ok b w) ∧ FieldsEq P w d C D fs bs
  | _, _ => False
theorem eqFields_all {P : Program} {w : World} {d : Nat} {C D : Array Value} : ∀ (fs : List Field) (l : List (TypeId × Nat)) (bs : List Bool), fs.map (fun f => (f.type, f.offset, f.name == "_")) = l.map (fun x => (x.1, x.2, false)) →
    FieldsEq P w d C D l bs → (Op.eqFields d C D fs).run P w = .ok (bs.all id) w
  | [], [], [], _, _ => rfl
  | [], [], _ :: _, _, h => h.elim
  | [], _ :: _, _, h, _ => by simp at h
  | _ :: _, [], _, h, _ => by simp at h
  | _ :: _, _ :: _, [], _, h => h.elim
  | f :: fs, (t, o) :: l, b :: bs, h, hb => by
    simp only [List.map_cons, List.cons.injEq, Prod.mk.injEq, beq_eq_false_iff_ne] at h
    obtain ⟨⟨rfl, rfl, hn⟩, h⟩ := h
    obtain ⟨⟨u, v, p, p', q⟩, hr⟩ := hb
    rw [eqFields_bool hn p p' q, eqFields_all fs l bs h hr]
    cases b <;> simp
theorem part_rowx (ty : TypeId) (n off : Nat) (xs ys zs : List Value) (h : RowTy Try.prog ty n) (hx : xs.length = off) (hy : ys.length = n) (w : World) : (part ty (xs ++ (ys ++ zs)).toArray off).run Try.prog w = .ok (.agg ys.toArray) w := by
  obtain ⟨h1, h2⟩ := h
  cases hu : Try.prog.underlying ty with
  | none => rw [hu] at h1; cases h1
  | some d =>
    rw [hu] at h1
    cases hi : Try.prog.info? ty with
    | none => rw [hi] at h2; cases h2
    | some i =>
      have hs : i.size = n := by simpa [hi] using h2
      have hagg : (isAgg ty).run Try.prog w = .ok true w := by
        unfold isAgg
        rw [Sem.run_bind, run_underlying hu w]
        cases d <;> simp_all
      unfold part
      simp [hagg, sizeOf, typeInfo, hi, hs]
      subst hx
      subst hy
      simp
theorem eql_hash (a b : List UInt8) (ha : a.length = 32) (hb : b.length = 32) (d : Nat) (w : World) : (Op.equalIn (d + 2) 30 (.agg (a.map by8).toArray) (.agg (b.map by8).toArray)).run Try.prog w = .ok (decide (a = b)) w := by
  have h := run_equalIn_bytes (P := Try.prog) w d 30 5 32 Try.underlying30 Try.underlying5 u8_size1 a b ha hb
  rw [show decide (a = b) = (a == b) by rw [Bool.eq_iff_iff]; simp]
  exact h
theorem eql_int (y z : Int) (d : Nat) (w : World) : (Op.equalIn (d + 1) 3 (.int .i64 y) (.int .i64 z)).run Try.prog w = .ok (decide (y = z)) w := by
  have h := run_equalIn_int (P := Try.prog) w d 3 .i64 .i64 y z Try.underlying3
  rw [show decide (y = z) = (y == z) by rw [Bool.eq_iff_iff]; simp]
  exact h
theorem eql_u64 (y z : Int) (d : Nat) (w : World) : (Op.equalIn (d + 1) 61 (.int .u64 y) (.int .u64 z)).run Try.prog w = .ok (decide (y = z)) w := by
  have h := run_equalIn_int (P := Try.prog) w d 61 .u64 .u64 y z Try.underlying61
  rw [show decide (y = z) = (y == z) by rw [Bool.eq_iff_iff]; simp]
  exact h
theorem part_int (off : Nat) (cs : Array Value) (v : Value) (hv : cs[off]? = some v) (w : World) : (part 3 cs off).run Try.prog w = .ok v w := run_part_plain w (by kernel_rfl) hv
theorem part_u64 (off : Nat) (cs : Array Value) (v : Value) (hv : cs[off]? = some v) (w : World) : (part 61 cs off).run Try.prog w = .ok v w := run_part_plain w (by kernel_rfl) hv
theorem eql_of {ty : TypeId} {d : Nat} {C D : Array Value} {w : World} {l : List (TypeId × Nat)} {bs : List Bool} (e : (Op.equalIn (d + 1) ty (.agg C) (.agg D)).run Try.prog w = (Op.eqFields d C D (Try.prog.fieldsOf ty).toList).run Try.prog w)
    (hfs : (Try.prog.fieldsOf ty).toList.map (fun f => (f.type, f.offset, f.name == "_")) = l.map (fun x => (x.1, x.2, false))) (hb : FieldsEq Try.prog w d C D l bs) : (Op.equalIn (d + 1) ty (.agg C) (.agg D)).run Try.prog w = .ok (bs.all id) w := by
  rw [e]
  exact eqFields_all _ l bs hfs hb
def Wst.eqB (x y : Wst) : Bool := [decide (x.r = y.r), (decide (x.c = y.c) && decide (x.s = y.s)), decide (x.h = y.h), decide ((x.t : Int) = (y.t : Int)), (decide (x.b = y.b) && decide (x.m = y.m))].all id
theorem Wst.eqB_iff (x y : Wst) : x.eqB y = true ↔ x = y := by
  obtain ⟨_, _, _, _, _, _, _⟩ := x
  obtain ⟨_, _, _, _, _, _, _⟩ := y
  simp [Wst.eqB, Wst.mk.injEq, and_assoc]
  (try omega)
def Wvt.eqB (x y : Wvt) : Bool := [decide (x.k = y.k), decide (x.e = y.e), decide (x.r = y.r), decide (x.p = y.p), decide (x.h = y.h), (decide (x.b = y.b) && decide (x.m = y.m))].all id
theorem Wvt.eqB_iff (x y : Wvt) : x.eqB y = true ↔ x = y := by
  obtain ⟨_, _, _, _, _, _, _⟩ := x
  obtain ⟨_, _, _, _, _, _, _⟩ := y
  simp [Wvt.eqB, Wvt.mk.injEq, and_assoc]
  (try omega)
def Wdn.eqB (x y : Wdn) : Bool := [decide (x.r = y.r), decide (x.i = y.i), (decide (x.b = y.b) && decide (x.m = y.m))].all id
theorem Wdn.eqB_iff (x y : Wdn) : x.eqB y = true ↔ x = y := by
  obtain ⟨_, _, _, _⟩ := x
  obtain ⟨_, _, _, _⟩ := y
  simp [Wdn.eqB, Wdn.mk.injEq, and_assoc]
  (try omega)
end Go.Proofs.Ytfmkegblhpnfcaa

namespace Go.Proofs.Ytfmkegblhpnfcaa
set_option maxRecDepth 100000
open Go.RowKit
section
variable {P : Program} {k : TypeId} {κ : Type}
variable [BEq κ]
/-- l with v at x -/
def upd (l : List (κ × Value)) (x : κ) (v : Value) : List (κ × Value) := l.map fun e => if e.1 == x then (e.1, v) else e
theorem upd_look [LawfulBEq κ] (l : List (κ × Value)) (x y : κ) (v : Value) : (upd l x v).lookup y = if y == x then (l.lookup y).map (fun _ => v) else l.lookup y := by
  induction l with
  | nil => simp [upd]
  | cons e l ih =>
    obtain ⟨a, b⟩ := e
    unfold upd at ih ⊢
    rw [List.map_cons, List.lookup_cons]
    by_cases hax : a = x
    · subst hax
      simp only [beq_self_eq_true, if_true, List.lookup_cons]
      by_cases hy : y = a
      · subst hy
        simp
      · have hy' : (y == a) = false := by simpa using hy
        rw [hy'] at ih ⊢
        simpa using ih
    · have hax' : (a == x) = false := by simpa using hax
      simp only [hax', Bool.false_eq_true, if_false, List.lookup_cons]
      by_cases hy : y = a
      · subst hy
        simp [hax']
      · have hy' : (y == a) = false := by simpa using hy
        rw [hy']
        exact ih
theorem Tab.upd [LawfulBEq κ] {K : KeyKind P k κ} {D : DataW Value} {l : List (κ × Value)} {x : κ} {v : Value} (h : Tab K D l) (hx : K.ok x) (hl : (l.lookup x).isSome = true) : Tab K (D.put (K.lit x) (.held v)) (upd l x v) := by
  have hne : ∀ y, K.ok y → y ≠ x → K.lit y ≠ K.lit x := fun y hy hh hk => hh (K.lit_inj hy hx hk)
  refine ⟨h.tidy.put (K.lit_key hx) _, ?_, ?_, ?_, ?_⟩
  · intro e he
    obtain ⟨q, hq, rfl⟩ := List.mem_map.1 he
    have := h.ok q hq
    split <;> exact this
  · rw [Maps.size_put h.tidy, h.has x hx, h.size, hl]
    simp [Go.Proofs.Ytfmkegblhpnfcaa.upd]
  · intro y hy
    rw [upd_look]
    by_cases hyx : y = x
    · subst hyx
      rw [Maps.has_put_same h.tidy.isMap (K.lit_key hy)]
      simp [hl]
    · have hyx' : (y == x) = false := by simpa using hyx
      rw [Maps.has_put_other (hne y hy hyx), h.has y hy, hyx']
      rfl
  · intro y u hy hu z
    rw [upd_look] at hu
    by_cases hyx : y = x
    · subst hyx
      obtain ⟨o, ho⟩ := Option.isSome_iff_exists.1 hl
      rw [ho] at hu
      simp at hu
      subst hu
      rw [Maps.atKey_put_same h.tidy.isMap (K.lit_key hy)]
    · have hyx' : (y == x) = false := by simpa using hyx
      rw [hyx'] at hu
      rw [Maps.atKey_put_other (hne y hy hyx)]
      exact h.val y u hy (by simpa using hu) z
/-- what a store makes of a list of keys and values -/
def putl (l : List (κ × Value)) (x : κ) (v : Value) : List (κ × Value) := if (l.lookup x).isSome then upd l x v else l ++ [(x, v)]
theorem putl_look [LawfulBEq κ] (l : List (κ × Value)) (x y : κ) (v : Value) : (putl l x v).lookup y = if y == x then some v else l.lookup y := by
  unfold putl
  split
  · rename_i h
    rw [upd_look]
    by_cases hy : y = x
    · subst hy
      obtain ⟨o, ho⟩ := Option.isSome_iff_exists.1 h
      simp [ho]
    · have hy' : (y == x) = false := by simpa using hy
      simp [hy']
  · rename_i h
    have hn : l.lookup x = none := Option.not_isSome_iff_eq_none.1 h
    by_cases hy : y = x
    · subst hy
      rw [lookup_same hn]
      simp
    · have hy' : (y == x) = false := by simpa using hy
      rw [lookup_other hy, hy']
      rfl
theorem putl_len (l : List (κ × Value)) (x : κ) (v : Value) : (putl l x v).length ≤ l.length + 1 := by
  unfold putl
  split
  · simp [upd]
  · simp
theorem MapAt.put [LawfulBEq κ] {K : KeyKind P k κ} {w : World} {b : Nat} {l : List (κ × Value)} (h : MapAt K w b l) {t e : TypeId} (ht : P.underlying t = some (.map k e)) (hl : l.length < maxLen) {x : κ} (hx : K.ok x) (v : Value) :
    ∃ w', (Instr.mapUpdate t (.map (some b)) (K.val x) v).run P w = .ok () w' ∧ MapAt K w' b (putl l x v) ∧ Fr [b] w w' := by
  unfold putl
  split
  · rename_i hs
    obtain ⟨D, h1, h2⟩ := h
    have h3 := h2.upd (v := v) hx hs
    obtain ⟨w', hrun, hown, hturn⟩ := h1.store K.keyed ht hl (K.key x hx) (show heldElem v = some (.held v, []) from rfl)
    refine ⟨w', hrun, ⟨_, ?_, h3⟩, (Fr.refl [b] w).turnedT hturn (by simp)⟩
    obtain ⟨es, clock, hb, F, hs', hD⟩ := hown
    refine ⟨es, clock, hb, F, ?_, hD⟩
    have e1 : Maps.size (D.put (K.lit x) (DataW.held v)) = es.size := by rw [hD]; simp [Maps.size, length_sorted]
    have e2 := h3.size
    simp only [Go.Proofs.Ytfmkegblhpnfcaa.upd, List.length_map] at e2 ⊢
    omega
  · rename_i hs
    exact h.store ht hl hx (Option.not_isSome_iff_eq_none.1 hs) v
theorem MapAt.entryP [LawfulBEq κ] {K : KeyKind P k κ} (hlaw : Go.WideMaps.KeyLaw P k) {w : World} {b : Nat} {l : List (κ × Value)} (h : MapAt K w b l) {t e : TypeId} (ht : P.underlying t = some (.map k e)) (hl : l.length < maxLen) {z : Value} (hz : ∀ u : World, (zeroValue e).run P u = .ok z u)
    {x : κ} (hx : K.ok x) :
    ∃ v0 st w1, (Instr.mapEntry t (.map (some b)) (K.val x)).run P w = .ok (.tuple #[v0, goInt st]) w1 ∧ Fr [b] w w1 ∧ ∀ (w2 : World) (v : Value), w2.heap[b]? = w1.heap[b]? →
      ∃ w3, (Instr.entryStore t (.map (some b)) (goInt st) v).run P w2 = .ok () w3 ∧ MapAt K w3 b (putl l x v) ∧ Fr [b] w2 w3 := by
  have hall := fun v => h.put ht hl hx v
  obtain ⟨D, ⟨es, clock, hb, F, hs, hD⟩, h2⟩ := h
  obtain ⟨v0, st, es1, clock1, hrun, _, hst⟩ := Go.WideElems.entry_then_store hlaw ht hz hb F (K.key x hx)
  refine ⟨v0, st, _, hrun, ⟨rfl, rfl, rfl, by simp [ChangeMaps.setBlock], fun i _ hi => Go.ChangeMaps.heap_setBlock_other hb _ (by simpa using hi)⟩, fun w2 v hw2 => ?_⟩
  rw [Go.ChangeMaps.heap_setBlock_same hb] at hw2
  obtain ⟨es', clock', h3, h4⟩ := hst w2 v hw2
  obtain ⟨w', hrun', hmap, _⟩ := hall v
  rw [h4] at hrun'
  cases hrun'
  refine ⟨_, h3, ?_, ⟨rfl, rfl, rfl, by simp [ChangeMaps.setBlock], fun i _ hi => Go.ChangeMaps.heap_setBlock_other hw2 _ (by simpa using hi)⟩⟩
  obtain ⟨D', ⟨es2, clock2, hb2, r⟩, h5⟩ := hmap
  rw [Go.ChangeMaps.heap_setBlock_same hb] at hb2
  exact ⟨D', ⟨es2, clock2, (Go.ChangeMaps.heap_setBlock_same hw2 _).trans hb2, r⟩, h5⟩
end
theorem wfI {z : Int} (h : i64In z) : (Lit.int .i64 z).wf = true := WalkArith.wf_i64 ⟨h.1, by have := h.2; omega⟩
theorem mapM_some {α β : Type} (f : α → Option β) (g : α → β) : ∀ l : List α, (∀ x ∈ l, f x = some (g x)) → l.mapM f = some (l.map g) := by
  intro l
  induction l with
  | nil => intro _; rfl
  | cons a l ih =>
    intro h
    rw [List.mapM_cons, h a (by simp), ih (fun x hx => h x (by simp [hx]))]
    rfl
theorem wf_u8 (b : UInt8) : (Lit.int .u8 (b.toNat : Int)).wf = true := by
  have h : ∀ n : Fin 256, (Lit.int .u8 (n.val : Int)).wf = true := by decide +kernel
  exact h ⟨b.toNat, b.toNat_lt⟩
theorem flat1 {α β : Type} (f : α → β) : ∀ l : List α, (l.map fun i => [f i]).flatten = l.map f := by
  intro l
  induction l with
  | nil => rfl
  | cons a l ih => simp only [List.map_cons, List.flatten_cons, ih, List.singleton_append]
theorem lits_hash (h : List UInt8) (hh : h.length = 32) (d : Nat) : Try.prog.keyLits (d + 2) 30 (h.map by8) = some (h.map fun b => .int .u8 (b.toNat : Int)) := by
  have hc : Try.prog.cellsOf 30 = 32 := by kernel_rfl
  have hc1 : Try.prog.cellsOf 5 = 1 := by kernel_rfl
  have hm := mapM_some (fun i => Try.prog.keyLits (d + 1) 5 (((h.map by8).drop (i * 1)).take 1)) (fun i => [Lit.int .u8 ((h.getD i 0).toNat : Int)]) (List.range 32) (by
    intro i hi
    have hi' : i < h.length := by rw [hh]; exact List.mem_range.1 hi
    have e : ((h.map by8).drop (i * 1)).take 1 = [by8 h[i]] := by
      rw [Nat.mul_one, List.drop_eq_getElem_cons (by simpa using hi')]
      simp
    have hl : (Lit.int .u8 (h[i].toNat : Int)).wf = true := wf_u8 h[i]
    simp only [e]
    simp [Program.keyLits, Try.underlying5, by8, hl, List.getD_eq_getElem?_getD, hi'])
  have hu : Try.prog.underlying 30 = some (.array 32 5) := Try.underlying30
  unfold Program.keyLits
  rw [hu]
  simp only [hc, hc1, List.length_map, hh, if_true]
  rw [hm]
  simp only [Option.map_some, Option.some.injEq, flat1 (fun i => Lit.int .u8 ((h.getD i 0).toNat : Int))]
  apply List.ext_getElem
  · simp [hh]
  · intro i h1 h2
    have hi : i < h.length := by simpa using h2
    simp [hi]
theorem rowBal : (68 : TypeId) < Try.prog.types.size := of_decide_eq_true (by kernel_rfl)
theorem rowPol : (65 : TypeId) < Try.prog.types.size := of_decide_eq_true (by kernel_rfl)
theorem wideBal : (match Try.prog.underlying 68 with | some (.array _ _) | some (.struct _) => true | _ => false) = true := by rw [Try.underlying68]
theorem widePol : (match Try.prog.underlying 65 with | some (.array _ _) | some (.struct _) => true | _ => false) = true := by rw [Try.underlying65]
theorem laidOutT : laidOutB Try.prog = true := by kernel_rfl
theorem keyLawBal : Go.WideMaps.KeyLaw Try.prog 68 := deep_law_laid laidOutT (m := 3) (by omega) rowBal (by kernel_rfl) wideBal
theorem keyLawPol : Go.WideMaps.KeyLaw Try.prog 65 := deep_law_laid laidOutT (m := 2) (by omega) rowPol (by kernel_rfl) widePol
theorem keyTypeBal : Try.prog.keyType 68 = true := by kernel_rfl
theorem keyTypePol : Try.prog.keyType 65 = true := by kernel_rfl
theorem cellsBal : Try.prog.cellsOf 68 = 34 := by kernel_rfl
theorem cellsPol : Try.prog.cellsOf 65 = 2 := by kernel_rfl
theorem cellsInt : Try.prog.cellsOf 3 = 1 := by kernel_rfl
theorem cellsHsh : Try.prog.cellsOf 30 = 32 := by kernel_rfl
/-- a kind, a round, a hash -/
abbrev Bal := Int × Int × List UInt8
abbrev Pol := Int × Int
def bcells (e : Bal) : List Value := .int .i64 e.1 :: .int .i64 e.2.1 :: e.2.2.map by8
def bval (e : Bal) : Value := .agg (bcells e).toArray
def blit (e : Bal) : Lit := .string (keyBytes (.int .i64 e.1 :: .int .i64 e.2.1 :: e.2.2.map fun b => .int .u8 (b.toNat : Int)))
def bok (e : Bal) : Prop := i64In e.1 ∧ i64In e.2.1 ∧ e.2.2.length = 32
def pval (e : Pol) : Value := .agg #[.int .i64 e.1, .int .i64 e.2]
def plit (e : Pol) : Lit := .string (keyBytes [.int .i64 e.1, .int .i64 e.2])
def pok (e : Pol) : Prop := i64In e.1 ∧ i64In e.2
theorem key_bal (e : Bal) (h : bok e) : keyOf Try.prog 68 (bval e) = some (blit e) := by
  obtain ⟨x, t, l⟩ := e
  have h1 := wfI h.1
  have h2 := wfI h.2.1
  have h3 := h.2.2
  simp only at h1 h2 h3
  obtain ⟨m, hm⟩ : ∃ m, Try.prog.types.size = m + 2 := ⟨Try.prog.types.size - 2, by have : 2 < Try.prog.types.size := of_decide_eq_true (by kernel_rfl); omega⟩
  have hf : (bval (x, t, l)).formed Try.prog 68 = true := by simp [bval, bcells, Value.formed, Try.underlying68, cellsBal, h3]
  have hH := lits_hash l h3 m
  have hk : Try.prog.keyLits (Try.prog.types.size + 1) 68 (bval (x, t, l)).cells.toList = some (.int .i64 x :: .int .i64 t :: l.map fun b => .int .u8 (b.toNat : Int)) := by
    rw [hm]
    have e3 : ((l.map by8).take 32) = l.map by8 := List.take_of_length_le (by simp [h3])
    have hI : ∀ d z, (Lit.int .i64 z).wf = true → Try.prog.keyLits (d + 1) 3 [.int .i64 z] = some [.int .i64 z] := fun d z hz => by simp [Program.keyLits, Try.underlying3, hz]
    unfold Program.keyLits
    simp only [Try.underlying68, bval, bcells, Value.cells, cellsBal, List.length_cons, List.length_map, h3]
    simp [cellsInt, cellsHsh, hI, h1, h2, e3, hH]
  unfold keyOf
  rw [Try.underlying68]
  show (if (Try.prog.keyType 68 && (bval (x, t, l)).formed Try.prog 68) = true then (Try.prog.keyLits (Try.prog.types.size + 1) 68 (bval (x, t, l)).cells.toList).map fun ls => Lit.string (keyBytes ls) else none) = _
  rw [keyTypeBal, hf, hk]
  rfl
theorem key_pol (e : Pol) (h : pok e) : keyOf Try.prog 65 (pval e) = some (plit e) := by
  obtain ⟨x, t⟩ := e
  have h1 := wfI h.1
  have h2 := wfI h.2
  simp only at h1 h2
  obtain ⟨m, hm⟩ : ∃ m, Try.prog.types.size = m + 1 := ⟨Try.prog.types.size - 1, (Nat.succ_pred_eq_of_pos (Nat.lt_of_le_of_lt (Nat.zero_le _) rowPol)).symm⟩
  have hf : (pval (x, t)).formed Try.prog 65 = true := by simp [pval, Value.formed, Try.underlying65, cellsPol]
  have hk : Try.prog.keyLits (Try.prog.types.size + 1) 65 (pval (x, t)).cells.toList = some [.int .i64 x, .int .i64 t] := by
    rw [hm]
    simp [Program.keyLits, Try.underlying65, pval, Value.cells, cellsPol, cellsInt, Try.underlying3, h1, h2]
  unfold keyOf
  rw [Try.underlying65]
  show (if (Try.prog.keyType 65 && (pval (x, t)).formed Try.prog 65) = true then (Try.prog.keyLits (Try.prog.types.size + 1) 65 (pval (x, t)).cells.toList).map fun ls => Lit.string (keyBytes ls) else none) = _
  rw [keyTypePol, hf, hk]
  rfl
theorem by8_inj : ∀ {a b : List UInt8}, a.map by8 = b.map by8 → a = b := by
  intro a
  induction a with
  | nil => intro b h; cases b with
    | nil => rfl
    | cons y b => simp at h
  | cons x a ih =>
    intro b h
    cases b with
    | nil => simp at h
    | cons y b =>
      simp only [List.map_cons, List.cons.injEq] at h
      have e : x = y := by
        have h1 := h.1
        unfold by8 at h1
        injection h1 with _ h1
        exact UInt8.toNat_inj.1 (by omega)
      rw [e, ih h.2]
def balKey : KeyKind Try.prog 68 Bal where
  val := bval
  lit := blit
  ok := bok
  keyed := Maps.Keyed.of_law keyLawBal
  key := key_bal
  inj := fun x y h => by
    obtain ⟨a, b, l⟩ := x
    obtain ⟨c, d, m⟩ := y
    simp [bval, bcells] at h
    obtain ⟨rfl, rfl, h⟩ := h
    have h' : l = m := by8_inj h
    rw [h']
def polKey : KeyKind Try.prog 65 Pol where
  val := pval
  lit := plit
  ok := pok
  keyed := Maps.Keyed.of_law keyLawPol
  key := key_pol
  inj := fun x y h => by
    obtain ⟨a, b⟩ := x
    obtain ⟨c, d⟩ := y
    simp [pval] at h
    simp [h]
end Go.Proofs.Ytfmkegblhpnfcaa

namespace Go.Proofs.Ytfmkegblhpnfcaa
namespace Pop
def val : List Nat → Nat
  | [] => 0
  | b :: l => b + 256 * val l
def rep (c : Nat) : Nat → Nat
  | 0 => 0
  | n + 1 => c + 256 * rep c n
def g1 (b : Nat) : Nat := ((b / 2) &&& 85) + (b &&& 85)
def g2 (b : Nat) : Nat := ((b / 4) &&& 51) + (b &&& 51)
def g3 (b : Nat) : Nat := b / 16 + b % 16
theorem and_split (a b m c : Nat) (hb : b < 256) (hc : c < 256) : (b + 256 * a) &&& (c + 256 * m) = (b &&& c) + 256 * (a &&& m) := by
  have hbc : b &&& c < 256 := Nat.lt_of_le_of_lt Nat.and_le_left hb
  apply Nat.eq_of_testBit_eq
  intro i
  have e1 := Nat.testBit_two_pow_mul_add a (i := 8) hb i
  have e2 := Nat.testBit_two_pow_mul_add m (i := 8) hc i
  have e3 := Nat.testBit_two_pow_mul_add (a &&& m) (i := 8) hbc i
  rw [Nat.testBit_and, show b + 256 * a = 2 ^ 8 * a + b by omega, show c + 256 * m = 2 ^ 8 * m + c by omega, show (b &&& c) + 256 * (a &&& m) = 2 ^ 8 * (a &&& m) + (b &&& c) by omega, e1, e2, e3]
  split
  · rw [Nat.testBit_and]
  · rw [Nat.testBit_and]
theorem t1 : ∀ b : Fin 256, ∀ e : Fin 2, (b.val / 2 + 128 * e.val) &&& 85 = (b.val / 2) &&& 85 := by decide +kernel
theorem t2 : ∀ b : Fin 256, ∀ e : Fin 4, (b.val / 4 + 64 * e.val) &&& 51 = (b.val / 4) &&& 51 := by decide +kernel
theorem t3 : ∀ b : Fin 69, ∀ e : Fin 5, b.val % 16 ≤ 4 → (b.val / 16 + b.val + 16 * e.val) &&& 15 = g3 b.val := by decide +kernel
theorem s1 : ∀ l : List Nat, (∀ b ∈ l, b < 256) → (val l / 2 &&& rep 85 l.length) + (val l &&& rep 85 l.length) = val (l.map g1) := by
  intro l
  induction l with
  | nil => intro _; rfl
  | cons b l ih =>
    intro h
    have hb := h b (by simp)
    have h' := ih (fun x hx => h x (by simp [hx]))
    generalize hv : val l = v at h'
    simp only [val, List.map_cons, List.length_cons, rep, ← h', hv]
    have e : (b + 256 * v) / 2 = (b / 2 + 128 * (v % 2)) + 256 * (v / 2) := by omega
    rw [e, and_split _ _ _ _ (by omega) (by omega), and_split _ _ _ _ hb (by omega)]
    have := t1 ⟨b, hb⟩ ⟨v % 2, by omega⟩
    simp only at this
    rw [this, g1]
    omega
theorem s2 : ∀ l : List Nat, (∀ b ∈ l, b < 256) → (val l / 4 &&& rep 51 l.length) + (val l &&& rep 51 l.length) = val (l.map g2) := by
  intro l
  induction l with
  | nil => intro _; rfl
  | cons b l ih =>
    intro h
    have hb := h b (by simp)
    have h' := ih (fun x hx => h x (by simp [hx]))
    generalize hv : val l = v at h'
    simp only [val, List.map_cons, List.length_cons, rep, ← h', hv]
    have e : (b + 256 * v) / 4 = (b / 4 + 64 * (v % 4)) + 256 * (v / 4) := by omega
    rw [e, and_split _ _ _ _ (by omega) (by omega), and_split _ _ _ _ hb (by omega)]
    have := t2 ⟨b, hb⟩ ⟨v % 4, by omega⟩
    simp only at this
    rw [this, g2]
    omega
def nib (b : Nat) : Prop := b < 69 ∧ b % 16 ≤ 4
theorem s3 : ∀ l : List Nat, (∀ b ∈ l, nib b) → (val l / 16 + val l) &&& rep 15 l.length = val (l.map g3) ∧ val l % 16 ≤ 4 := by
  intro l
  induction l with
  | nil => intro _; exact ⟨rfl, by decide⟩
  | cons b l ih =>
    intro h
    have hb := h b (by simp)
    obtain ⟨h', h2⟩ := ih (fun x hx => h x (by simp [hx]))
    generalize hv : val l = v at h' h2
    simp only [val, List.map_cons, List.length_cons, rep, ← h', hv]
    have hb1 := hb.1
    have hb2 := hb.2
    refine ⟨?_, by omega⟩
    have e : (b + 256 * v) / 16 + (b + 256 * v) = (b / 16 + b + 16 * (v % 16)) + 256 * (v / 16 + v) := by omega
    rw [e, and_split _ _ _ _ (by omega) (by omega)]
    have := t3 ⟨b, hb1⟩ ⟨v % 16, by omega⟩ hb2
    simp only at this
    rw [this]
def pc (b : Nat) : Nat := g3 (g2 (g1 b))
theorem t4 : ∀ b : Fin 256, g1 b.val < 256 ∧ g2 (g1 b.val) < 69 ∧ g2 (g1 b.val) % 16 ≤ 4 ∧ pc b.val ≤ 8 := by decide +kernel
/-- as many binary digits of n are 1 -/
def pop : Nat → Nat → Nat
  | 0, _ => 0
  | n + 1, x => x % 2 + pop n (x / 2)
theorem t5 : ∀ b : Fin 256, pop 8 b.val = pc b.val := by decide +kernel
theorem pop8 (n x : Nat) : pop (n + 8) x = pop 8 (x % 256) + pop n (x / 256) := by
  have e : x / 2 / 2 / 2 / 2 / 2 / 2 / 2 / 2 = x / 256 := by omega
  simp only [pop, e]
  omega
theorem fold (c0 c1 c2 c3 c4 c5 c6 c7 x : Nat) (h0 : c0 ≤ 8) (h1 : c1 ≤ 8) (h2 : c2 ≤ 8) (h3 : c3 ≤ 8) (h4 : c4 ≤ 8) (h5 : c5 ≤ 8) (h6 : c6 ≤ 8) (h7 : c7 ≤ 8)
    (hx : x = c0 + 256 * (c1 + 256 * (c2 + 256 * (c3 + 256 * (c4 + 256 * (c5 + 256 * (c6 + 256 * c7))))))) (y z f : Nat) (hy : y = x + x / 256) (hz : z = y + y / 65536) (hf : f = z + z / 4294967296) :
    x < 1000000000000000000 ∧ y < 2000000000000000000 ∧ z < 4000000000000000000 ∧ f < 8000000000000000000 ∧ f % 128 = c0 + c1 + c2 + c3 + c4 + c5 + c6 + c7 := by
  obtain ⟨a6, e6⟩ : ∃ a, a = c6 + 256 * c7 := ⟨_, rfl⟩
  rw [← e6] at hx
  obtain ⟨a5, e5⟩ : ∃ a, a = c5 + 256 * a6 := ⟨_, rfl⟩
  rw [← e5] at hx
  obtain ⟨a4, e4⟩ : ∃ a, a = c4 + 256 * a5 := ⟨_, rfl⟩
  rw [← e4] at hx
  obtain ⟨a3, e3⟩ : ∃ a, a = c3 + 256 * a4 := ⟨_, rfl⟩
  rw [← e3] at hx
  obtain ⟨a2, e2⟩ : ∃ a, a = c2 + 256 * a3 := ⟨_, rfl⟩
  rw [← e2] at hx
  obtain ⟨a1, e1⟩ : ∃ a, a = c1 + 256 * a2 := ⟨_, rfl⟩
  rw [← e1] at hx
  have b6 : a6 ≤ 2056 := by omega
  have b5 : a5 ≤ 526344 := by clear hx hy hz hf e1 e2 e3 e4; omega
  have b4 : a4 ≤ 134744072 := by clear hx hy hz hf e1 e2 e3 e5 e6; omega
  have b3 : a3 ≤ 34494482440 := by clear hx hy hz hf e1 e2 e4 e5 e6; omega
  have b2 : a2 ≤ 8830587504648 := by clear hx hy hz hf e1 e3 e4 e5 e6; omega
  have b1 : a1 ≤ 2260630401189896 := by clear hx hy hz hf e2 e3 e4 e5 e6; omega
  have d1 : x / 256 = a1 := by clear hy hz hf e2 e3 e4 e5 e6; omega
  rw [d1] at hy
  have bx : x < 1000000000000000000 := by clear hy hz hf e1 e2 e3 e4 e5 e6; omega
  have hy2 : y = (c0 + c1 + 256 * (c1 + c2)) + 65536 * (a2 + a3) := by clear hz hf e3 e4 e5 e6; omega
  have d2 : y / 65536 = a2 + a3 := by clear hz hf hx hy e1 e2 e3 e4 e5 e6; omega
  rw [d2] at hz
  have by' : y < 2000000000000000000 := by clear hz hf hx hy e1 e2 e3 e4 e5 e6; omega
  have g2 : a2 = c2 + 256 * c3 + 65536 * c4 + 16777216 * c5 + 4294967296 * a6 := by clear hz hf hx hy hy2 d1 d2; omega
  have g3 : a3 = c3 + 256 * c4 + 65536 * c5 + 16777216 * c6 + 4294967296 * c7 := by clear hz hf hx hy hy2 d1 d2 g2; omega
  have g23 : 65536 * (a2 + a3) = 65536 * (c2 + c3) + 16777216 * (c3 + c4) + 4294967296 * (a4 + a5) := by clear hz hf hx hy hy2 d1 d2 g2 g3; omega
  have hz2 : z = (c0 + c1 + c2 + c3 + 256 * (c1 + c2 + c3 + c4) + 65536 * (c2 + c3 + c4 + c5) + 16777216 * (c3 + c4 + c5 + c6)) + 4294967296 * (a4 + a5 + a6 + c7) := by clear hf hx hy d1 d2 e1 e2 e3 e4 e5 e6; omega
  have d3 : z / 4294967296 = a4 + a5 + a6 + c7 := by clear hf hx hy hz hy2 d1 d2 e1 e2 e3 e4 e5 e6 g2 g3 g23; omega
  rw [d3] at hf
  have bz : z < 4000000000000000000 := by clear hf hx hy hy2 d1 d2 d3 e1 e2 e3 e4 e5 e6 g2 g3 g23 hz2; omega
  have hf2 : f = (c0 + c1 + c2 + c3 + c4 + c5 + c6 + c7) + 128 * (2 * (c1 + c2 + c3 + c4) + 512 * (c2 + c3 + c4 + c5) + 131072 * (c3 + c4 + c5 + c6) + 33554432 * (a4 + a5 + a6 + c7) + 2 * (a5 + a6 + c7)) := by clear hx hy hz hy2 d1 d2 d3 e1 e2 e3 g2 g3 g23; omega
  refine ⟨bx, by', bz, by clear hx hy hz hy2 d1 d2 d3 e1 e2 e3 g2 g3 g23 hz2 hf2 e4 e5 e6; omega, by clear hx hy hz hf hz2 hy2 d1 d2 d3 e1 e2 e3 g2 g3 g23 e4 e5 e6; omega⟩
theorem bytes8 (x : Nat) (hx : x < 18446744073709551616) : x = val [x % 256, x / 256 % 256, x / 65536 % 256, x / 16777216 % 256, x / 4294967296 % 256, x / 1099511627776 % 256, x / 281474976710656 % 256, x / 72057594037927936] := by
  simp only [val]
  omega

set_option maxHeartbeats 1000000 in
theorem ones (x : Nat) (hx : x < 18446744073709551616) (a b c d e f : Nat)
    (ha : a = (x / 2 &&& 6148914691236517205) + (x &&& 6148914691236517205))
    (hb : b = (a / 4 &&& 3689348814741910323) + (a &&& 3689348814741910323))
    (hc : c = (b / 16 + b) &&& 1085102592571150095)
    (hd : d = c + c / 256) (he : e = d + d / 65536) (hf : f = e + e / 4294967296) :
    a < 18446744073709551616 ∧ b < 8000000000000000000 ∧ b / 16 + b < 18446744073709551616 ∧ c < 1000000000000000000 ∧ d < 2000000000000000000 ∧ e < 4000000000000000000 ∧ f < 8000000000000000000 ∧ f % 128 = pop 64 x := by
  obtain ⟨l, hl⟩ : ∃ l, l = [x % 256, x / 256 % 256, x / 65536 % 256, x / 16777216 % 256, x / 4294967296 % 256, x / 1099511627776 % 256, x / 281474976710656 % 256, x / 72057594037927936] := ⟨_, rfl⟩
  have hlen : l.length = 8 := by rw [hl]; rfl
  have hb8 : ∀ y ∈ l, y < 256 := by
    rw [hl]
    intro y hy
    simp only [List.mem_cons, List.not_mem_nil, or_false] at hy
    omega
  have h1 := s1 l hb8
  have h2 := s2 (l.map g1) (fun y hy => by
    obtain ⟨q, hq, rfl⟩ := List.mem_map.1 hy
    exact (t4 ⟨q, hb8 q hq⟩).1)
  have h3 := s3 ((l.map g1).map g2) (fun y hy => by
    obtain ⟨q, hq, rfl⟩ := List.mem_map.1 hy
    obtain ⟨r, hr, rfl⟩ := List.mem_map.1 hq
    exact ⟨(t4 ⟨r, hb8 r hr⟩).2.1, (t4 ⟨r, hb8 r hr⟩).2.2.1⟩)
  have hx' : x = val l := by rw [hl]; exact bytes8 x hx
  simp only [List.length_map, hlen] at h1 h2 h3
  rw [show rep 85 8 = 6148914691236517205 by decide, ← hx', ← ha] at h1
  rw [show rep 51 8 = 3689348814741910323 by decide, ← h1, ← hb] at h2
  rw [show rep 15 8 = 1085102592571150095 by decide, ← h2, ← hc] at h3
  have hc' := h3.1
  have hbv := h2
  have hav := h1
  have hpc : ∀ y : Nat, y < 256 → g1 y < 256 ∧ g2 (g1 y) < 69 ∧ pc y ≤ 8 := fun y hy => ⟨(t4 ⟨y, hy⟩).1, (t4 ⟨y, hy⟩).2.1, (t4 ⟨y, hy⟩).2.2.2⟩
  have p0 := hpc (x % 256) (by omega)
  have p1 := hpc (x / 256 % 256) (by omega)
  have p2 := hpc (x / 65536 % 256) (by omega)
  have p3 := hpc (x / 16777216 % 256) (by omega)
  have p4 := hpc (x / 4294967296 % 256) (by omega)
  have p5 := hpc (x / 1099511627776 % 256) (by omega)
  have p6 := hpc (x / 281474976710656 % 256) (by omega)
  have p7 := hpc (x / 72057594037927936) (by omega)
  have ha2 : a < 18446744073709551616 := by
    rw [hav, hl]
    simp only [List.map_cons, List.map_nil, val]
    omega
  have hb2 : b < 8000000000000000000 := by
    rw [hbv, hl]
    simp only [List.map_cons, List.map_nil, val]
    omega
  have hc2 : c = pc (x % 256) + 256 * (pc (x / 256 % 256) + 256 * (pc (x / 65536 % 256) + 256 * (pc (x / 16777216 % 256) + 256 * (pc (x / 4294967296 % 256) + 256 * (pc (x / 1099511627776 % 256) + 256 * (pc (x / 281474976710656 % 256) + 256 * pc (x / 72057594037927936))))))) := by
    rw [hc', hl]
    simp only [List.map_cons, List.map_nil, val, pc]
    omega
  have hF := fold _ _ _ _ _ _ _ _ c p0.2.2 p1.2.2 p2.2.2 p3.2.2 p4.2.2 p5.2.2 p6.2.2 p7.2.2 hc2 d e f hd he hf
  refine ⟨ha2, hb2, by omega, hF.1, hF.2.1, hF.2.2.1, hF.2.2.2.1, ?_⟩
  rw [hF.2.2.2.2]
  have hq : ∀ y : Nat, y < 256 → pc y = pop 8 y := fun y hy => (t5 ⟨y, hy⟩).symm
  rw [hq _ (by omega), hq _ (by omega), hq _ (by omega), hq _ (by omega), hq _ (by omega), hq _ (by omega), hq _ (by omega), hq _ (by omega)]
  have q0 : pop 64 x = pop 8 (x % 256) + pop 56 (x / 256) := pop8 56 x
  have q1 : pop 56 (x / 256) = pop 8 (x / 256 % 256) + pop 48 (x / 65536) := by
    have h := pop8 48 (x / 256)
    rw [Nat.div_div_eq_div_mul] at h
    exact h
  have q2 : pop 48 (x / 65536) = pop 8 (x / 65536 % 256) + pop 40 (x / 16777216) := by
    have h := pop8 40 (x / 65536)
    rw [Nat.div_div_eq_div_mul] at h
    exact h
  have q3 : pop 40 (x / 16777216) = pop 8 (x / 16777216 % 256) + pop 32 (x / 4294967296) := by
    have h := pop8 32 (x / 16777216)
    rw [Nat.div_div_eq_div_mul] at h
    exact h
  have q4 : pop 32 (x / 4294967296) = pop 8 (x / 4294967296 % 256) + pop 24 (x / 1099511627776) := by
    have h := pop8 24 (x / 4294967296)
    rw [Nat.div_div_eq_div_mul] at h
    exact h
  have q5 : pop 24 (x / 1099511627776) = pop 8 (x / 1099511627776 % 256) + pop 16 (x / 281474976710656) := by
    have h := pop8 16 (x / 1099511627776)
    rw [Nat.div_div_eq_div_mul] at h
    exact h
  have q6 : pop 16 (x / 281474976710656) = pop 8 (x / 281474976710656 % 256) + pop 8 (x / 72057594037927936) := by
    have h := pop8 8 (x / 281474976710656)
    rw [Nat.div_div_eq_div_mul] at h
    exact h
  have q7 : pop 8 (x / 72057594037927936) = pop 8 (x / 72057594037927936 % 256) + pop 0 (x / 18446744073709551616) := by
    have h := pop8 0 (x / 72057594037927936)
    rw [Nat.div_div_eq_div_mul] at h
    exact h
  have q8 : x / 72057594037927936 % 256 = x / 72057594037927936 := by omega
  have q9 : pop 0 (x / 18446744073709551616) = 0 := rfl
  rw [q8] at q7
  omega
theorem pop_or : ∀ (n p x : Nat), p < n → x.testBit p = false → pop n (x ||| 2 ^ p) = pop n x + 1 := by
  intro n
  induction n with
  | zero => intro p x h; omega
  | succ n ih =>
    intro p x h hx
    cases p with
    | zero =>
      have h0 : x % 2 = 0 := by simpa [Nat.testBit_zero] using hx
      have e1 : (x ||| 2 ^ 0) / 2 = x / 2 := by simp [Nat.or_div_two]
      have e2 : (x ||| 2 ^ 0) % 2 = 1 := by rw [Nat.or_mod_two_eq_one]; right; rfl
      simp only [pop, e1, e2]
      omega
    | succ p =>
      have e1 : (x ||| 2 ^ (p + 1)) / 2 = x / 2 ||| 2 ^ p := by rw [Nat.or_div_two, Nat.pow_succ, Nat.mul_div_cancel _ (by omega)]
      have e2 : (x ||| 2 ^ (p + 1)) % 2 = x % 2 := by
        have := Nat.or_mod_two_eq_one (a := x) (b := 2 ^ (p + 1))
        have h2 : 2 ^ (p + 1) % 2 = 0 := by rw [Nat.pow_succ]; omega
        omega
      simp only [pop, e1, e2]
      rw [ih p (x / 2) (by omega) (by rw [← Nat.testBit_succ]; exact hx)]
      omega
theorem pop_zero (n : Nat) : pop n 0 = 0 := by
  induction n with
  | zero => rfl
  | succ n ih => simp [pop, ih]
end Pop
end Go.Proofs.Ytfmkegblhpnfcaa

namespace Go.Proofs.Ytfmkegblhpnfcaa
set_option maxRecDepth 100000
open Go.RowKit

theorem bytesOf_nat (l : List UInt8) : Lib.bytesOf (l.map fun b => (b.toNat : Int)) = l := by
  unfold Lib.bytesOf
  rw [List.map_map]
  conv => rhs; rw [← List.map_id l]
  apply List.map_congr_left
  intro b _
  simp
theorem run_bytesOf_by {P : Program} {w : World} {A : Option Addr} {n c : Nat} {l : List UInt8} (h : By w A n l) : (Extern.Bytes.bytesOf (.slice A n c)).run P w = .ok ⟨l.toArray⟩ w := by
  rcases A with _ | a
  · obtain ⟨rfl, rfl⟩ := h.none_
    rfl
  · show (Extern.Bytes.loadBytes a n .empty).run P w = _
    have hl := Lib.run_loadBytesX (P := P) w (l.map fun b => (b.toNat : Int)) a .empty (fun j x hj => by
      rw [List.getElem?_map, Option.map_eq_some_iff] at hj
      obtain ⟨b, hb, rfl⟩ := hj
      have hjl := (List.getElem?_eq_some_iff.1 hb).1
      obtain ⟨a', b', e, hb', hc⟩ := h.at (k := j) (by rw [← h.1]; exact hjl)
      injection e with e
      subst e
      rw [hb] at hb'
      injection hb' with hb'
      subst hb'
      exact hc)
    rw [bytesOf_nat, List.length_map, h.1] at hl
    rw [hl]
    simp [ByteArray.empty, ByteArray.emptyWithCapacity]
    rfl
theorem run_compare_by {P : Program} {w : World} {A B : Option Addr} {n c m d : Nat} {l1 l2 : List UInt8} (h1 : By w A n l1) (h2 : By w B m l2) :
    (Extern.BytealgCompare.compare #[.slice A n c, .slice B m d]).run P w = .ok (.int .i64 (Lib.compareBytes l1 l2)) w := by
  change Sem.run P (do pure (goInt (Extern.BytealgCompare.cmp (← Extern.Bytes.bytesOf (.slice A n c)) (← Extern.Bytes.bytesOf (.slice B m d))))) w = _
  simp only [Sem.run_bind, run_bytesOf_by h1, run_bytesOf_by h2, Sem.run_pure, Result.andThen]
  rw [Lib.cmp_eq]
  rfl
theorem compare_any (A B : Option Addr) (n c m d : Nat) (l1 l2 : List UInt8) (w : World) (h1 : By w A n l1) (h2 : By w B m l2) :
    Calls Try.prog 37 #[.slice A n c, .slice B m d] w fun e w' => e = .returned (.int .i64 (Lib.compareBytes l1 l2)) ∧ w' = w := by
  have hrun := run_callFunc_extern (P := Try.prog) Try.func38 (by kernel_rfl) (by kernel_rfl) (by kernel_rfl) (e := Extern.BytealgCompare.compare) (by kernel_rfl) #[.slice A n c, .slice B m d] w
  rw [run_compare_by h1 h2] at hrun
  simp only [Result.andThen] at hrun
  clear h1 h2
  generalize Lib.compareBytes l1 l2 = v at *
  go_enter Try.func37, Try.ntmps37
  go_wp2
  go_ret
  exact ⟨rfl, rfl⟩

/-- the order of hashes -/
def lessB (a b : List UInt8) : Bool := decide (Lib.compareBytes a b < 0)
theorem box_hash {w : World} (a b : List UInt8) (ha : a.length = 32) (hb : b.length = 32) :
    By ((w.alloc (.cells (a.map by8).toArray 30)).alloc (.cells (b.map by8).toArray 30)) (some ⟨w.heap.size, 0, none⟩) 32 a ∧
      By ((w.alloc (.cells (a.map by8).toArray 30)).alloc (.cells (b.map by8).toArray 30)) (some ⟨w.heap.size + 1, 0, none⟩) 32 b := by
  constructor
  · have h := By.blk a (((Blk.new w 30 (a.map by8).toArray)).keep ((Fr.refl [] _).alloc (.cells (b.map by8).toArray 30)) (by simp)) rfl
    rwa [ha] at h
  · have h := By.blk b (Blk.new (w.alloc (.cells (a.map by8).toArray 30)) 30 (b.map by8).toArray) rfl
    rw [hb] at h
    simpa using h
set_option maxHeartbeats 400000 in
theorem less_any (a b : List UInt8) (ha : a.length = 32) (hb : b.length = 32) (w : World) :
    Calls Try.prog 35 #[.agg (a.map by8).toArray, .agg (b.map by8).toArray] w fun e w' => e = .returned (.bool (lessB a b)) ∧ Fr [] w w' := by
  obtain ⟨wb, hwb⟩ : ∃ wb, wb = (w.alloc (.cells (a.map by8).toArray 30)).alloc (.cells (b.map by8).toArray 30) := ⟨_, rfl⟩
  obtain ⟨h1, h2⟩ := box_hash (w := w) a b ha hb
  have hf : Fr [] w wb := by rw [hwb]; exact ((Fr.refl [] w).alloc _).alloc _
  rw [← hwb] at h1 h2
  have H1 := Lib.hid h1
  have H2 := Lib.hid h2
  have HF := Lib.hid hf
  have HL : Hid (lessB a b = decide (Lib.compareBytes a b < 0)) := Lib.hid rfl
  have hc := compare_any (some ⟨w.heap.size, 0, none⟩) (some ⟨w.heap.size + 1, 0, none⟩) 32 32 32 32 a b
  generalize Lib.compareBytes a b = v at *
  generalize lessB a b = r at *
  generalize (a.map by8).toArray = X at *
  generalize (b.map by8).toArray = Y at *
  have HWB := Lib.hid hwb
  have HC := Lib.hid hc
  clear h1 h2 hf hwb hc
  go_enter Try.func35, Try.ntmps35
  go_wp2
  rw [← HWB.out]
  go_quiet ((go_at_call 37; exact Calls.quiet_of_same (HC.out _ (H1.out.drewN _) (H2.out.drewN _))))
  go_wp2
  go_ret
  refine ⟨?_, HF.out.drewN _⟩
  rw [HL.out]
  rfl
end Go.Proofs.Ytfmkegblhpnfcaa

namespace Go.Proofs.Ytfmkegblhpnfcaa
set_option maxRecDepth 100000
/-- a vote: kind, round, replica, hash -/
structure Tv where
  k : Int
  r : Int
  p : Nat
  h : List UInt8
def cntH (T : List Tv) (k r : Int) (h : List UInt8) : Nat := T.countP fun v => decide (v.k = k ∧ v.r = r ∧ v.h = h)
def cntA (T : List Tv) (k r : Int) : Nat := T.countP fun v => decide (v.k = k ∧ v.r = r)
def hasV (T : List Tv) (k r : Int) (p : Nat) : Bool := T.any fun v => decide (v.k = k ∧ v.r = r ∧ v.p = p)
def mskV : List Tv → Int → Int → Nat
  | [], _, _ => 0
  | v :: T, k, r => if v.k = k ∧ v.r = r then mskV T k r ||| 2 ^ v.p else mskV T k r
def zh32 : List UInt8 := List.replicate 32 0
def betV (c : List UInt8 → Nat) (a b : List UInt8) : List UInt8 := if c b < c a ∨ (c a = c b ∧ lessB a b = true) then a else b
def mstV : List Tv → Int → Int → List UInt8
  | [], _, _ => zh32
  | v :: T, k, r => if v.k = k ∧ v.r = r then betV (cntH (v :: T) k r) (mstV T k r) v.h else mstV T k r
def lastV : List Tv → Nat → Int
  | [], _ => -1
  | v :: T, p => if v.p = p then max (lastV T p) v.r else lastV T p
def heardP (T : List Tv) (x : Int) (p : Nat) : Bool := decide (lastV T p ≠ -1 ∧ x ≤ lastV T p)
def heardV (T : List Tv) (x : Int) : Nat := (List.range 64).countP (heardP T x)
structure Tv.Ok (n : Int) (v : Tv) : Prop where
  k : v.k = 1 ∨ v.k = 2
  r : 0 ≤ v.r ∧ v.r ≤ 1048576
  p : (v.p : Int) < n
  h : v.h.length = 32
/-- votes that are counted: each may be, none is there twice -/
def Gd (n : Int) : List Tv → Prop
  | [] => True
  | v :: T => v.Ok n ∧ hasV T v.k v.r v.p = false ∧ Gd n T
/-- may this vote be counted? -/
def mayV (n : Int) (T : List Tv) (k r p : Int) : Bool := decide ((k = 1 ∨ k = 2) ∧ 0 ≤ r ∧ r ≤ 1048576 ∧ 0 ≤ p ∧ p < n) && !hasV T k r p.toNat
def addV (n : Int) (T : List Tv) (k r p : Int) (h : List UInt8) : List Tv := if mayV n T k r p = true then ⟨k, r, p.toNat, h⟩ :: T else T
theorem Gd.add {n : Int} {T : List Tv} (hT : Gd n T) (k r p : Int) {h : List UInt8} (hh : h.length = 32) : Gd n (addV n T k r p h) := by
  unfold addV
  split
  · rename_i hm
    simp only [mayV, Bool.and_eq_true, decide_eq_true_eq, Bool.not_eq_true'] at hm
    exact ⟨⟨hm.1.1, ⟨hm.1.2.1, hm.1.2.2.1⟩, by have := hm.1.2.2.2; simp only; omega, hh⟩, hm.2, hT⟩
  · exact hT
theorem Gd.mem {n : Int} {T : List Tv} (hT : Gd n T) : ∀ v ∈ T, v.Ok n := by
  induction T with
  | nil => simp
  | cons v T ih =>
    intro x hx
    rcases List.mem_cons.1 hx with rfl | hx
    · exact hT.1
    · exact ih hT.2.2 x hx
theorem addV_len (n : Int) (T : List Tv) (k r p : Int) (h : List UInt8) : (addV n T k r p h).length ≤ T.length + 1 := by unfold addV; split <;> simp
theorem mstV_len {n : Int} {T : List Tv} (hT : Gd n T) (k r : Int) : (mstV T k r).length = 32 := by
  induction T with
  | nil => simp [mstV, zh32]
  | cons v T ih =>
    unfold mstV
    split
    · unfold betV
      split
      · exact ih hT.2.2
      · exact hT.1.h
    · exact ih hT.2.2
theorem mskV_bit (T : List Tv) (k r : Int) (p : Nat) : (mskV T k r).testBit p = hasV T k r p := by
  induction T with
  | nil => simp [mskV, hasV]
  | cons v T ih =>
    unfold mskV hasV
    rw [List.any_cons]
    split
    · rename_i hc
      rw [Nat.testBit_or, ih, Nat.testBit_two_pow]
      simp [hc, hasV, Bool.or_comm]
    · rename_i hc
      rw [ih]
      have : decide (v.k = k ∧ v.r = r ∧ v.p = p) = false := decide_eq_false (fun h => hc ⟨h.1, h.2.1⟩)
      rw [this]
      rfl
theorem mskV_lt {n : Int} {T : List Tv} (hT : Gd n T) (hn : n ≤ 64) (k r : Int) : mskV T k r < 18446744073709551616 := by
  induction T with
  | nil => simp [mskV]
  | cons v T ih =>
    unfold mskV
    split
    · have hp : v.p < 64 := by have := hT.1.p; omega
      have h2 : (2 : Nat) ^ v.p < 2 ^ 64 := Nat.pow_lt_pow_right (by omega) hp
      exact Nat.or_lt_two_pow (n := 64) (ih hT.2.2) h2
    · exact ih hT.2.2
theorem pop_msk {n : Int} {T : List Tv} (hT : Gd n T) (hn : n ≤ 64) (k r : Int) : Pop.pop 64 (mskV T k r) = cntA T k r := by
  induction T with
  | nil => exact Pop.pop_zero 64
  | cons v T ih =>
    unfold mskV cntA
    rw [List.countP_cons]
    split
    · rename_i hc
      have hp : v.p < 64 := by have := hT.1.p; omega
      have hb : (mskV T k r).testBit v.p = false := by
        rw [mskV_bit]
        have := hT.2.1
        rwa [hc.1, hc.2] at this
      rw [Pop.pop_or 64 v.p _ hp hb, ih hT.2.2]
      simp [cntA, hc]
    · rename_i hc
      rw [ih hT.2.2]
      simp [cntA, hc]
theorem cntA_le (T : List Tv) (k r : Int) : cntA T k r ≤ T.length := List.countP_le_length
theorem cntH_le (T : List Tv) (k r : Int) (h : List UInt8) : cntH T k r h ≤ T.length := List.countP_le_length
theorem cntH_cons (v : Tv) (T : List Tv) (k r : Int) (h : List UInt8) : cntH (v :: T) k r h = cntH T k r h + if v.k = k ∧ v.r = r ∧ v.h = h then 1 else 0 := by
  unfold cntH
  rw [List.countP_cons]
  simp
theorem cntA_cons (v : Tv) (T : List Tv) (k r : Int) : cntA (v :: T) k r = cntA T k r + if v.k = k ∧ v.r = r then 1 else 0 := by
  unfold cntA
  rw [List.countP_cons]
  simp
theorem lastV_ge {n : Int} {T : List Tv} (hT : Gd n T) (p : Nat) : -1 ≤ lastV T p ∧ lastV T p ≤ 1048576 := by
  induction T with
  | nil => simp [lastV]
  | cons v T ih =>
    have h1 := ih hT.2.2
    have h2 := hT.1.r
    unfold lastV
    split <;> omega
theorem lastV_cons {n : Int} {v : Tv} {T : List Tv} (p : Nat) : lastV (v :: T) p = if v.p = p then max (lastV T p) v.r else lastV T p := rfl
end Go.Proofs.Ytfmkegblhpnfcaa

namespace Go.Proofs.Ytfmkegblhpnfcaa
set_option maxRecDepth 100000
open Go.RowKit

/-- the entries once e was signed -/
def sgn (l : List Ent) (e : Ent) : List Ent := if e ∈ l then l else l ++ [e]
def mrk (l : List Ent) (e : Ent) : Int := ((l.idxOf e + 1 : Nat) : Int)

theorem mrk_old {l : List Ent} {e : Ent} (h : e ∈ l) : sgn l e = l := if_pos h
theorem mrk_new {l : List Ent} {e : Ent} (h : ¬ e ∈ l) : mrk (l ++ [e]) e = (l.length + 1 : Nat) := by
  unfold mrk
  simp [List.idxOf_append, h]
theorem rightB_sgn (l : List Ent) (x : Int) (t : List UInt8) : rightB (sgn l (x, t)) x (mrk (sgn l (x, t)) (x, t)) t = true := by
  unfold rightB mrk sgn
  split <;> simp_all

end Go.Proofs.Ytfmkegblhpnfcaa

namespace Go.Proofs.Ytfmkegblhpnfcaa
open Go.RowKit
set_option maxRecDepth 100000

def signB (b c : Int) : Bool := decide (1000 ≤ b ∧ b - 1000 = c)
def rightC (k : Int) (l : List Ent) (x : Cm) : Bool := validB k x && (signB x.b x.c && rightB l x.b x.m x.text)
/-- what opens a commitment -/
def opnCells (i : Int) (A : Option Addr) (n cap : Nat) (h : List UInt8) : List Value := .int .i64 i :: .slice A n cap :: h.map by8
theorem opn_len (i : Int) (A : Option Addr) (n cap : Nat) (h : List UInt8) (hh : h.length = 32) : (opnCells i A n cap h).length = 34 := by simp [opnCells, hh]
theorem opn_at {w : World} {g : Nat} {i : Int} {A : Option Addr} {n cap : Nat} {h : List UInt8} (hr : w.rangeAt g 0 (opnCells i A n cap h)) : w.cell? ⟨g, 1, none⟩ = some (.slice A n cap) ∧ w.rangeAt g 2 (h.map by8) := by
  refine ⟨rangeAt_cell hr 1 rfl rfl, ?_⟩
  have e : opnCells i A n cap h = [.int .i64 i, .slice A n cap] ++ (h.map by8 ++ []) := by simp [opnCells]
  rw [e] at hr
  simpa using rangeAt_sub hr
end Go.Proofs.Ytfmkegblhpnfcaa

namespace Go.Proofs.Ytfmkegblhpnfcaa
open Go.RowKit
set_option maxRecDepth 100000

/-! ### a struct is built of parts -/
def splice (l : List Value) (o : Nat) (v : List Value) : List Value := l.take o ++ (v ++ l.drop (o + v.length))
theorem splice_foldl : ∀ (v : List Value) (k o : Nat) (cs : Array Value), o + k + v.length ≤ cs.size →
    (v.zipIdx k).foldl (fun cs (c, j) => cs.setIfInBounds (o + j) c) cs = (splice cs.toList (o + k) v).toArray
  | [], k, o, cs, _ => by
    simp [splice]
  | c :: r, k, o, cs, h => by
    simp only [List.length_cons] at h
    rw [List.zipIdx_cons, List.foldl_cons, splice_foldl r (k + 1) o _ (by simp; omega)]
    congr 1
    unfold splice
    simp only [Array.toList_setIfInBounds, List.length_cons]
    have h1 : o + k < cs.toList.length := by simp; omega
    rw [show o + (k + 1) = (o + k) + 1 by omega, List.take_add_one, List.take_set_of_le (Nat.le_refl _), List.getElem?_set_self h1, List.drop_set_of_lt (by omega)]
    simp [Nat.add_assoc, Nat.add_comm, Nat.add_left_comm]
theorem fill_step (place : Nat → Option (Nat × Nat)) (cells : Array Value) (i off size : Nat) (v : Value) (rest : List (Nat × Value)) (hp : place i = some (off, size)) (h1 : v.cells.size = size) (h2 : off + size ≤ cells.size) :
    Instr.fill place cells ((i, v) :: rest) = Instr.fill place (splice cells.toList off v.cells.toList).toArray rest := by
  rw [Instr.fill, hp]
  simp only [h1]
  rw [if_neg (by simp; omega)]
  congr 1
  have e := splice_foldl v.cells.toList 0 off cells (by simp [h1]; omega)
  rw [Nat.add_zero] at e
  rw [← e, ← Array.foldl_toList, Array.toList_zipIdx]

def zeroCm : Array Value := (Cm.cells ⟨0, 0, List.replicate 32 0, 0, 0, 0⟩).toArray
def places : List (Nat × Nat) := [(0, 2), (2, 32), (34, 1), (35, 2)]
theorem cells_sig (c s n b m b' m' : Int) (h : List UInt8) (hh : h.length = 32) : (((Cm.cells ⟨c, s, h, n, b, m⟩).toArray.setIfInBounds 35 (.int .i64 b')).setIfInBounds 36 (.int .i64 m')) = (Cm.cells ⟨c, s, h, n, b', m'⟩).toArray := by
  simp [Cm.cells, List.set_append, hh]
theorem setCells_two (w : World) (g o : Nat) (x y : Value) : w.setCells g o [x, y] = (w.setCell ⟨g, o, none⟩ x).setCell ⟨g, o + 1, none⟩ y := rfl
theorem Blk.there {w : World} {g : Nat} {t : TypeId} {cs : Array Value} (h : Blk w g t cs) (o n : Nat) (hl : o + n ≤ cs.size) : w.there g o n := fun j hj => by
  refine ⟨?_, h.frozen _⟩
  rw [h.cell, Array.getElem?_eq_getElem (by omega)]
  rfl
/-- what Make makes, its signature aside -/
def made0 (c s : Int) (h b : List UInt8) : Cm := ⟨c, s, sumL (ofL c s h b), b.length, 0, 0⟩
def made (c s : Int) (h b : List UInt8) (l : List Ent) : Cm :=
  ⟨c, s, sumL (ofL c s h b), b.length, 1000 + c, mrk (sgn l (1000 + c, (made0 c s h b).text)) (1000 + c, (made0 c s h b).text)⟩
theorem made_text (c s : Int) (h b : List UInt8) (l : List Ent) : (made c s h b l).text = (made0 c s h b).text := rfl

end Go.Proofs.Ytfmkegblhpnfcaa

namespace Go.Proofs.Ytfmkegblhpnfcaa
set_option maxRecDepth 100000
open Go.RowKit
theorem bits_and64 (a b : Nat) (ha : a < 18446744073709551616) (hb : b < 18446744073709551616) : bits .and .u64 (a : Int) (b : Int) = ((a &&& b : Nat) : Int) := by
  have h : bits .and .u64 (a : Int) (b : Int) = IntKind.u64.wrap (((BitVec.ofInt 64 (a : Int)) &&& (BitVec.ofInt 64 (b : Int))).toNat : Int) := rfl
  rw [h, BitVec.ofInt_natCast, BitVec.ofInt_natCast, BitVec.toNat_and, BitVec.toNat_ofNat, BitVec.toNat_ofNat, Nat.mod_eq_of_lt (by omega), Nat.mod_eq_of_lt (by omega)]
  have h2 : a &&& b < 18446744073709551616 := Nat.lt_of_le_of_lt Nat.and_le_left ha
  have h3 : IntKind.u64.wrap ((a &&& b : Nat) : Int) = ((a &&& b : Nat) : Int) % 18446744073709551616 := rfl
  rw [h3]
  omega
theorem bits_and127 (a : Nat) (ha : a < 9223372036854775808) : bits .and .i64 (a : Int) 127 = ((a % 128 : Nat) : Int) := by
  have h : bits .and .i64 (a : Int) 127 = IntKind.i64.wrap (((BitVec.ofInt 64 (a : Int)) &&& (BitVec.ofInt 64 ((127 : Nat) : Int))).toNat : Int) := rfl
  rw [h, BitVec.ofInt_natCast, BitVec.ofInt_natCast, BitVec.toNat_and, BitVec.toNat_ofNat, BitVec.toNat_ofNat, Nat.mod_eq_of_lt (by omega), Nat.mod_eq_of_lt (by omega)]
  have h2 : a &&& 127 = a % 128 := Nat.and_two_pow_sub_one_eq_mod a 7
  rw [h2]
  rw [IntKind.wrap_i64]
  omega
theorem wrapU (a : Nat) (ha : a < 18446744073709551616) : IntKind.u64.wrap (a : Int) = (a : Int) := by
  have h3 : IntKind.u64.wrap (a : Int) = (a : Int) % 18446744073709551616 := rfl
  rw [h3]
  omega
theorem wrapI (a : Nat) (ha : a < 9223372036854775808) : IntKind.i64.wrap (a : Int) = (a : Int) := by
  rw [IntKind.wrap_i64]
  omega
set_option maxHeartbeats 1000000 in
theorem ones_eqs (x : Nat) (hx : x < 18446744073709551616) : ∃ p1 p2 a p3 p4 b b2 c d e f : Int, bits .and .u64 ((x : Int) / 2) 6148914691236517205 = p1 ∧ bits .and .u64 (x : Int) 6148914691236517205 = p2 ∧ IntKind.u64.wrap (p1 + p2) = a ∧
    bits .and .u64 (a / 4) 3689348814741910323 = p3 ∧ bits .and .u64 a 3689348814741910323 = p4 ∧ IntKind.u64.wrap (p3 + p4) = b ∧ IntKind.u64.wrap (b / 16 + b) = b2 ∧ bits .and .u64 b2 1085102592571150095 = c ∧
    IntKind.u64.wrap (c + c / 256) = d ∧ IntKind.u64.wrap (d + d / 65536) = e ∧ IntKind.u64.wrap (e + e / 4294967296) = f ∧ wrap64 f = f ∧ bits .and .i64 f 127 = ((Pop.pop 64 x : Nat) : Int) := by
  obtain ⟨a, ha⟩ : ∃ a, a = (x / 2 &&& 6148914691236517205) + (x &&& 6148914691236517205) := ⟨_, rfl⟩
  obtain ⟨b, hb⟩ : ∃ b, b = (a / 4 &&& 3689348814741910323) + (a &&& 3689348814741910323) := ⟨_, rfl⟩
  obtain ⟨c, hc⟩ : ∃ c, c = (b / 16 + b) &&& 1085102592571150095 := ⟨_, rfl⟩
  obtain ⟨d, hd⟩ : ∃ d, d = c + c / 256 := ⟨_, rfl⟩
  obtain ⟨e, he⟩ : ∃ e, e = d + d / 65536 := ⟨_, rfl⟩
  obtain ⟨f, hf⟩ : ∃ f, f = e + e / 4294967296 := ⟨_, rfl⟩
  obtain ⟨k1, k2, k3, k4, k5, k6, k7, k8⟩ := Pop.ones x hx a b c d e f ha hb hc hd he hf
  have e1 : bits .and .u64 ((x : Int) / 2) 6148914691236517205 = ((x / 2 &&& 6148914691236517205 : Nat) : Int) := by
    have q : (x : Int) / 2 = ((x / 2 : Nat) : Int) := by omega
    rw [q]
    exact bits_and64 (x / 2) 6148914691236517205 (by omega) (by omega)
  have e2 : bits .and .u64 (x : Int) 6148914691236517205 = ((x &&& 6148914691236517205 : Nat) : Int) := bits_and64 x 6148914691236517205 hx (by omega)
  have e3 : IntKind.u64.wrap (((x / 2 &&& 6148914691236517205 : Nat) : Int) + ((x &&& 6148914691236517205 : Nat) : Int)) = (a : Int) := by
    have q : ((x / 2 &&& 6148914691236517205 : Nat) : Int) + ((x &&& 6148914691236517205 : Nat) : Int) = (a : Int) := by rw [ha]; exact (Int.natCast_add _ _).symm
    rw [q]
    exact wrapU a k1
  have e4 : bits .and .u64 ((a : Int) / 4) 3689348814741910323 = ((a / 4 &&& 3689348814741910323 : Nat) : Int) := by
    have q : (a : Int) / 4 = ((a / 4 : Nat) : Int) := by omega
    rw [q]
    exact bits_and64 (a / 4) 3689348814741910323 (by omega) (by omega)
  have e5 : bits .and .u64 (a : Int) 3689348814741910323 = ((a &&& 3689348814741910323 : Nat) : Int) := bits_and64 a 3689348814741910323 k1 (by omega)
  have e6 : IntKind.u64.wrap (((a / 4 &&& 3689348814741910323 : Nat) : Int) + ((a &&& 3689348814741910323 : Nat) : Int)) = (b : Int) := by
    have q : ((a / 4 &&& 3689348814741910323 : Nat) : Int) + ((a &&& 3689348814741910323 : Nat) : Int) = (b : Int) := by rw [hb]; exact (Int.natCast_add _ _).symm
    rw [q]
    exact wrapU b (by omega)
  have q7 : ((b / 16 + b : Nat) : Int) = (b : Int) / 16 + (b : Int) := by omega
  have e7 : IntKind.u64.wrap ((b : Int) / 16 + (b : Int)) = (b : Int) / 16 + (b : Int) := by
    rw [← q7]
    exact wrapU (b / 16 + b) k3
  have e8 : bits .and .u64 ((b : Int) / 16 + (b : Int)) 1085102592571150095 = (c : Int) := by
    rw [hc, ← q7]
    exact bits_and64 (b / 16 + b) 1085102592571150095 k3 (by omega)
  have e9 : IntKind.u64.wrap ((c : Int) + (c : Int) / 256) = (d : Int) := by
    have q : (c : Int) + (c : Int) / 256 = (d : Int) := by omega
    rw [q]
    exact wrapU d (by omega)
  have e10 : IntKind.u64.wrap ((d : Int) + (d : Int) / 65536) = (e : Int) := by
    have q : (d : Int) + (d : Int) / 65536 = (e : Int) := by omega
    rw [q]
    exact wrapU e (by omega)
  have e11 : IntKind.u64.wrap ((e : Int) + (e : Int) / 4294967296) = (f : Int) := by
    have q : (e : Int) + (e : Int) / 4294967296 = (f : Int) := by omega
    rw [q]
    exact wrapU f (by omega)
  have e12 : wrap64 (f : Int) = (f : Int) := IntWalk.wrap64_in _ (by omega)
  obtain ⟨P, hP⟩ : ∃ P, P = Pop.pop 64 x := ⟨_, rfl⟩
  rw [← hP] at k8
  have e13 : bits .and .i64 (f : Int) 127 = (P : Int) := by
    rw [← k8]
    exact bits_and127 f (Nat.lt_trans k7 (by decide))
  refine ⟨_, _, _, _, _, _, _, _, _, _, _, e1, e2, e3, e4, e5, e6, e7, e8, e9, e10, e11, e12, ?_⟩
  rw [← hP]
  exact e13
set_option maxHeartbeats 1000000 in
theorem ones_any (x : Nat) (hx : x < 18446744073709551616) (w : World) : Calls Try.prog 24 #[.int .u64 (x : Int)] w fun e w' => e = .returned (.int .i64 (Pop.pop 64 x : Nat)) ∧ w = w' := by
  obtain ⟨p1, p2, a, p3, p4, b, b2, c, d, e, f, e1, e2, e3, e4, e5, e6, e7, e8, e9, e10, e11, e12, e13⟩ := ones_eqs x hx
  generalize ((Pop.pop 64 x : Nat) : Int) = P at e13 ⊢
  generalize (x : Int) = X at *
  go_enter Try.func24, Try.ntmps24
  go_wp2
  go_ret
  exact ⟨rfl, rfl⟩
end Go.Proofs.Ytfmkegblhpnfcaa

namespace Go.Proofs.Ytfmkegblhpnfcaa
open Go.RowKit
set_option maxRecDepth 100000

/-- whatever has come up, so has all that it waits for -/
def Cl (md : Region.Mode) (ops : Array Oper) (L : Array Bool) : Prop :=
  ∀ j oj, ops[j]? = some oj → L.getD j false = true → ∀ e ∈ oj.after, Region.binds md e = true → L.getD e.on false = true
/-- does k wait for i, straight or through others? -/
def awaits (md : Region.Mode) (ops : Array Oper) : Nat → Nat → Nat → Bool
  | 0, _, _ => false
  | f + 1, k, i => match ops[k]? with
    | none => false
    | some o => o.after.any fun e => Region.binds md e && (e.on == i || awaits md ops f e.on i)
theorem awaits_listed {md : Region.Mode} {ops : Array Oper} {L : Array Bool} (hc : Cl md ops L) : ∀ (f k i : Nat), awaits md ops f k i = true → L.getD k false = true → L.getD i false = true
  | 0, _, _, h, _ => by simp [awaits] at h
  | f + 1, k, i, h, hk => by
    unfold awaits at h
    cases ho : ops[k]? with
    | none => rw [ho] at h; simp at h
    | some o =>
      rw [ho] at h
      simp only [Array.any_eq_true] at h
      obtain ⟨n, hn, hb⟩ := h
      simp only [Bool.and_eq_true, Bool.or_eq_true, beq_iff_eq] at hb
      have hl := hc k o ho hk _ (Array.getElem_mem hn) hb.1
      rcases hb.2 with h2 | h2
      · rw [← h2]; exact hl
      · exact awaits_listed hc f _ _ h2 hl
theorem getD_two {L : Array Bool} {i : Nat} (h : L.getD i true = false) : L.getD i false = false := by
  rcases Nat.lt_or_ge i L.size with h' | h'
  · simpa [h'] using h
  · simp [Array.getElem?_eq_none h']
theorem pending {md : Region.Mode} {ops : Array Oper} {T i : Nat} (h : awaits md ops ops.size T i = true) (L : Array Bool) (hc : Cl md ops L) (hp : L.getD i true = false) : L.getD T false = false := by
  cases ht : L.getD T false with
  | false => rfl
  | true =>
    have h1 := awaits_listed hc _ _ _ h ht
    rw [getD_two hp] at h1
    cases h1
def wpTill (P : Program) (md : Region.Mode) (ops : Array Oper) (Q : Exit → Act → World → Prop) (T : Nat) (A B : World → Prop) : Nat → Array Bool → Act → World → Prop
  | 0, L, a, w => Region.ready md ops L = [] ∧ Q .normal a w
  | f + 1, L, a, w => (Region.ready md ops L = [] → Q .normal a w) ∧
    ∀ i ∈ Region.ready md ops L, wpOp P ops Q i (fun a' w' => (A w' ∧ ((L.setIfInBounds i true).getD T false = false → B w')) ∧ wpTill P md ops Q T A B f (L.setIfInBounds i true) a' w') a w
section
variable {P : Program} {ops : Array Oper} {Q : Exit → Act → World → Prop} {md : Region.Mode} {T : Nat} {A B : World → Prop}
theorem wpAny_of_till : ∀ (f : Nat) (L : Array Bool) (a : Act) (w : World), wpTill P md ops Q T A B f L a w → wpAny P md ops Q f L a w
  | 0, _, _, _, h => h
  | f + 1, _, _, _, h => ⟨h.1, fun i hi => wpOp_mono (fun a' w' h' => wpAny_of_till f _ a' w' h'.2) (h.2 i hi)⟩
theorem Cl.set {L : Array Bool} (hc : Cl md ops L) {i : Nat} (hi : i ∈ Region.ready md ops L) : Cl md ops (L.setIfInBounds i true) := by
  obtain ⟨_, oi, hoi, hall⟩ := mem_ready.1 hi
  intro j oj hj hl e he hb
  have up : ∀ k, L.getD k false = true → (L.setIfInBounds i true).getD k false = true := fun k hk => by
    by_cases hik : i = k
    · subst hik
      rcases Nat.lt_or_ge i L.size with h' | h'
      · simp [h']
      · simp [Array.getElem?_eq_none h'] at hk
    · rw [getD_set_ne false hik]; exact hk
  by_cases hij : i = j
  · subst hij
    have : oi = oj := Option.some.inj (hoi.symm.trans hj)
    subst this
    exact up _ (hall e he hb)
  · rw [getD_set_ne false hij] at hl
    exact up _ (hc j oj hj hl e he hb)
/-- an operation that yields the same wherever both conditions hold, and for which T waits, may be taken first -/
theorem till_take {i : Nat} {oi : Oper} {v : Value} (hi : ops[i]? = some oi) (hs : Region.noSelect ops = true) (hiT : i ≠ T) (hp : awaits md ops ops.size T i = true) (hQ : ∀ c a w, Q (.panic c) (a.put oi.dst v) w → Q (.panic c) a w) :
    ∀ (f : Nat) (L : Array Bool) (a : Act) (w : World), (∀ j oj, ops[j]? = some oj → j ≠ i → L.getD j true = false → (∀ e ∈ oj.after, Region.binds md e = true → e.on ≠ i) → oi.apart ops oj = true) →
      Cl md ops L → i ∈ Region.ready md ops L → YieldsIf P ops (fun w => A w ∧ B w) oi v a → A w → B w →
      wpTill P md ops Q T A B f (L.setIfInBounds i true) (a.put oi.dst v) w → wpTill P md ops Q T A B (f + 1) L a w := by
  have hsel := Region.noSelect_spec hs
  intro f
  induction f with
  | zero =>
    intro L a w _ _ hr hy hA hB H
    refine ⟨fun h => (by rw [h] at hr; cases hr), fun j hj => ?_⟩
    by_cases hji : j = i
    · subst hji; exact hy.wpOp hi ⟨hA, hB⟩ ⟨⟨hA, fun _ => hB⟩, H⟩
    · have h0 := ready_mono hj hji
      rw [H.1] at h0
      cases h0
  | succ f ih =>
    intro L a w hap hc hr hy hA hB H
    refine ⟨fun h => (by rw [h] at hr; cases hr), fun j hj => ?_⟩
    by_cases hji : j = i
    · subst hji; exact hy.wpOp hi ⟨hA, hB⟩ ⟨⟨hA, fun _ => hB⟩, H⟩
    · obtain ⟨hjun, oj, hoj, hall⟩ := mem_ready.1 hj
      have hiun := (mem_ready.1 hr).1
      have hno : ∀ e ∈ oj.after, Region.binds md e = true → e.on ≠ i := fun e he hb heq => by
        have h1 := hall e he hb
        rw [heq, getD_two hiun] at h1
        cases h1
      have h2 := wpOp_putIf hoj (hap j oj hoj hji hjun hno) (hsel i oi · · hi) (hsel j oj · · hoj) hQ hy (H.2 j (ready_mono hj hji))
      have hap' : ∀ k ok, ops[k]? = some ok → k ≠ i → (L.setIfInBounds j true).getD k true = false → (∀ e ∈ ok.after, Region.binds md e = true → e.on ≠ i) → oi.apart ops ok = true := fun k ok hk hki hun => by
        refine hap k ok hk hki ?_
        by_cases hjk : j = k
        · subst hjk; exact hjun
        · rwa [getD_set_ne true hjk] at hun
      have hr' := ready_mono hr (Ne.symm hji)
      have hc' := hc.set hj
      refine wpOp_mono (fun a' w' h3 => ?_) h2
      obtain ⟨hy', ⟨hA', hB'⟩, h4⟩ := h3
      rw [Array.setIfInBounds_comm _ _ (Ne.symm hji)] at h4 hB'
      have hT := pending hp _ hc' (mem_ready.1 hr').1
      have hB'' := hB' (by rw [getD_set_ne false hiT]; exact hT)
      exact ⟨⟨hA', fun _ => hB''⟩, ih (L.setIfInBounds j true) a' w' hap' hc' hr' hy' hA' hB'' h4⟩
/-- an operation that yields the same wherever the first condition holds may be taken first, whether T waits for it or not -/
theorem till_free {i : Nat} {oi : Oper} {v : Value} (hi : ops[i]? = some oi) (hs : Region.noSelect ops = true) (hiT : i ≠ T) (hQ : ∀ c a w, Q (.panic c) (a.put oi.dst v) w → Q (.panic c) a w) :
    ∀ (f : Nat) (L : Array Bool) (a : Act) (w : World), (∀ j oj, ops[j]? = some oj → j ≠ i → L.getD j true = false → (∀ e ∈ oj.after, Region.binds md e = true → e.on ≠ i) → oi.apart ops oj = true) →
      i ∈ Region.ready md ops L → YieldsIf P ops A oi v a → A w → (L.getD T false = false → B w) →
      wpTill P md ops Q T A B f (L.setIfInBounds i true) (a.put oi.dst v) w → wpTill P md ops Q T A B (f + 1) L a w := by
  have hsel := Region.noSelect_spec hs
  intro f
  induction f with
  | zero =>
    intro L a w _ hr hy hA hB H
    refine ⟨fun h => (by rw [h] at hr; cases hr), fun j hj => ?_⟩
    by_cases hji : j = i
    · subst hji; exact hy.wpOp hi hA ⟨⟨hA, fun h => hB (by rwa [getD_set_ne false hiT] at h)⟩, H⟩
    · have h0 := ready_mono hj hji
      rw [H.1] at h0
      cases h0
  | succ f ih =>
    intro L a w hap hr hy hA hB H
    refine ⟨fun h => (by rw [h] at hr; cases hr), fun j hj => ?_⟩
    by_cases hji : j = i
    · subst hji; exact hy.wpOp hi hA ⟨⟨hA, fun h => hB (by rwa [getD_set_ne false hiT] at h)⟩, H⟩
    · obtain ⟨hjun, oj, hoj, hall⟩ := mem_ready.1 hj
      have hiun := (mem_ready.1 hr).1
      have hno : ∀ e ∈ oj.after, Region.binds md e = true → e.on ≠ i := fun e he hb heq => by
        have h1 := hall e he hb
        rw [heq, getD_two hiun] at h1
        cases h1
      have h2 := wpOp_putIf hoj (hap j oj hoj hji hjun hno) (hsel i oi · · hi) (hsel j oj · · hoj) hQ hy (H.2 j (ready_mono hj hji))
      have hap' : ∀ k ok, ops[k]? = some ok → k ≠ i → (L.setIfInBounds j true).getD k true = false → (∀ e ∈ ok.after, Region.binds md e = true → e.on ≠ i) → oi.apart ops ok = true := fun k ok hk hki hun => by
        refine hap k ok hk hki ?_
        by_cases hjk : j = k
        · subst hjk; exact hjun
        · rwa [getD_set_ne true hjk] at hun
      refine wpOp_mono (fun a' w' h3 => ?_) h2
      obtain ⟨hy', ⟨hA', hB'⟩, h4⟩ := h3
      rw [Array.setIfInBounds_comm _ _ (Ne.symm hji)] at h4 hB'
      have hB'' : (L.setIfInBounds j true).getD T false = false → B w' := fun h => hB' (by rw [getD_set_ne false hiT]; exact h)
      exact ⟨⟨hA', hB''⟩, ih (L.setIfInBounds j true) a' w' hap' (ready_mono hr (Ne.symm hji)) hy' hA' hB'' h4⟩
end
/-- is what has come up closed? -/
def clB (md : Region.Mode) (ops : Array Oper) (L : Array Bool) : Bool :=
  (List.range ops.size).all fun j => !L.getD j false || match ops[j]? with
    | none => true
    | some o => o.after.all fun e => !Region.binds md e || L.getD e.on false
theorem Cl.of {md : Region.Mode} {ops : Array Oper} {L : Array Bool} (h : clB md ops L = true) : Cl md ops L := by
  intro j oj hj hl e he hb
  have h1 := List.all_eq_true.1 h j (List.mem_range.2 (Array.getElem?_eq_some_iff.1 hj).1)
  rw [hj, hl] at h1
  simp only [Bool.not_true, Bool.false_or] at h1
  have h2 := Array.all_eq_true_iff_forall_mem.1 h1 e he
  rw [hb] at h2
  simpa using h2
def tillOk (md : Region.Mode) (ops : Array Oper) (T : Nat) (L : Array Bool) (i : Nat) : Bool :=
  takeOk md ops L i && clB md ops L && awaits md ops ops.size T i && !(i == T)
section
variable {P : Program} {l : List Oper} {Q : Exit → Act → World → Prop} {md : Region.Mode} {T : Nat} {A B : World → Prop} {fuel : Nat} {L : Array Bool} {a : Act} {w : World}
theorem till_at {i : Nat} {oi : Oper} {v : Value} (hi : nthOp l i = some oi) (ht : tillOk md l.toArray T L i = true)
    (hQ : ∀ c a w, Q (.panic c) (a.put oi.dst v) w → Q (.panic c) a w) (hy : YieldsIf P l.toArray (fun w => A w ∧ B w) oi v a) (hA : A w) (hB : B w)
    (h : wpTill P md l.toArray Q T A B fuel (L.setIfInBounds i true) (a.put oi.dst v) w) : wpTill P md l.toArray Q T A B (fuel + 1) L a w := by
  unfold tillOk takeOk at ht
  simp only [Bool.and_eq_true, Bool.not_eq_true', beq_eq_false_iff_ne] at ht
  obtain ⟨⟨⟨⟨⟨h1, h2⟩, h3⟩, h4⟩, h5⟩, h6⟩ := ht
  have hi' : l.toArray[i]? = some oi := by rw [List.getElem?_toArray, nthOp_eq, hi]
  exact till_take hi' h1 h6 h5 hQ fuel L a w (Region.free_spec hi' h2) (Cl.of h4) (by simpa using h3) hy hA hB h
theorem till_skip {i : Nat} {oi : Oper} (hi : nthOp l i = some oi) (ht : tillOk md l.toArray T L i = true)
    (hQ : ∀ c a w, Q (.panic c) (a.put oi.dst undef) w → Q (.panic c) a w) (hw : Region.wanted oi (yielded l.toArray a.tmps) = false) (hA : A w) (hB : B w)
    (h : wpTill P md l.toArray Q T A B fuel (L.setIfInBounds i true) (a.put oi.dst undef) w) : wpTill P md l.toArray Q T A B (fuel + 1) L a w :=
  till_at hi ht hQ (.inr ⟨hw, rfl⟩) hA hB h
theorem till_run {i : Nat} {oi : Oper} (hi : nthOp l i = some oi) (ht : tillOk md l.toArray T L i = true) (hw : Region.wanted oi (yielded l.toArray a.tmps) = true) {v : Value}
    (hQ : ∀ c a w, Q (.panic c) (a.put oi.dst v) w → Q (.panic c) a w) (hA : A w) (hB : B w) (hy : ∀ w1, B w1 → (execOp a.eval oi).run P w1 = .ok (.value v) w1)
    (h : wpTill P md l.toArray Q T A B fuel (L.setIfInBounds i true) (a.put oi.dst v) w) : wpTill P md l.toArray Q T A B (fuel + 1) L a w :=
  till_at hi ht hQ (.inl ⟨hw, fun w1 h1 => hy w1 h1.2⟩) hA hB h
theorem till_row {i : Nat} {oi : Oper} (hi : nthOp l i = some oi) (ht : tillOk md l.toArray T L i = true) (hw : Region.wanted oi (yielded l.toArray a.tmps) = true)
    (ty : TypeId) (x : Operand) (ho : oi.op = .load ty x) (b o : Nat) (hx : a.eval x = .pointer (some ⟨b, o, none⟩)) (cs : List Value) (hc : ∀ w1, B w1 → w1.rangeAt b o cs) (hr : RowTy P ty cs.length)
    (hQ : ∀ c a w, Q (.panic c) (a.put oi.dst (.agg cs.toArray)) w → Q (.panic c) a w) (hA : A w) (hB : B w)
    (h : wpTill P md l.toArray Q T A B fuel (L.setIfInBounds i true) (a.put oi.dst (.agg cs.toArray)) w) : wpTill P md l.toArray Q T A B (fuel + 1) L a w := by
  obtain ⟨h1, h2⟩ := hr
  cases hu : P.underlying ty with
  | none => rw [hu] at h1; cases h1
  | some d =>
    rw [hu] at h1
    exact till_at hi ht hQ (yieldsIf_load_mid hw ty x ho b o hx cs d (fun w1 h1 => hc w1 h1.2) hu (by simpa using h1) h2) hA hB h
theorem till_build {i : Nat} {oi : Oper} (hi : nthOp l i = some oi) (ht : tillOk md l.toArray T L i = true) (hw : Region.wanted oi (yielded l.toArray a.tmps) = true)
    (t : TypeId) (parts : List (Nat × Operand)) (ho : oi.op = .build t parts.toArray) (vals : List (Nat × Value)) (cells : Array Value) (hb : P.built t vals = some cells) (hv : parts.map (fun p => (p.1, a.eval p.2)) = vals)
    (hQ : ∀ c a w, Q (.panic c) (a.put oi.dst (.agg cells)) w → Q (.panic c) a w) (hA : A w) (hB : B w)
    (h : wpTill P md l.toArray Q T A B fuel (L.setIfInBounds i true) (a.put oi.dst (.agg cells)) w) : wpTill P md l.toArray Q T A B (fuel + 1) L a w :=
  till_run hi ht hw hQ hA hB (fun _ _ => exec_build t parts.toArray ho cells (by
    have e : (parts.toArray.map fun (i, x) => (i, a.eval x)).toList = vals := by rw [← hv]; simp
    rw [e]; exact hb)) h
theorem till_freeAt {i : Nat} {oi : Oper} {v : Value} (hi : nthOp l i = some oi) (ht : takeOk md l.toArray L i = true) (hiT : i ≠ T) (hw : Region.wanted oi (yielded l.toArray a.tmps) = true)
    (hQ : ∀ c a w, Q (.panic c) (a.put oi.dst v) w → Q (.panic c) a w) (hA : A w) (hB : L.getD T false = false → B w) (hy : ∀ w1, A w1 → (execOp a.eval oi).run P w1 = .ok (.value v) w1)
    (h : wpTill P md l.toArray Q T A B fuel (L.setIfInBounds i true) (a.put oi.dst v) w) : wpTill P md l.toArray Q T A B (fuel + 1) L a w := by
  unfold takeOk at ht
  simp only [Bool.and_eq_true] at ht
  have hi' : l.toArray[i]? = some oi := by rw [List.getElem?_toArray, nthOp_eq, hi]
  exact till_free hi' ht.1.1 hiT hQ fuel L a w (Region.free_spec hi' ht.1.2) (by simpa using ht.2) (.inl ⟨hw, hy⟩) hA hB h
theorem till_fbuild {i : Nat} {oi : Oper} (hi : nthOp l i = some oi) (ht : takeOk md l.toArray L i = true) (hiT : i ≠ T) (hw : Region.wanted oi (yielded l.toArray a.tmps) = true)
    (t : TypeId) (parts : List (Nat × Operand)) (ho : oi.op = .build t parts.toArray) (vals : List (Nat × Value)) (cells : Array Value) (hb : P.built t vals = some cells) (hv : parts.map (fun p => (p.1, a.eval p.2)) = vals)
    (hQ : ∀ c a w, Q (.panic c) (a.put oi.dst (.agg cells)) w → Q (.panic c) a w) (hA : A w) (hB : L.getD T false = false → B w)
    (h : wpTill P md l.toArray Q T A B fuel (L.setIfInBounds i true) (a.put oi.dst (.agg cells)) w) : wpTill P md l.toArray Q T A B (fuel + 1) L a w :=
  till_freeAt hi ht hiT hw hQ hA hB (fun _ _ => exec_build t parts.toArray ho cells (by
    have e : (parts.toArray.map fun (i, x) => (i, a.eval x)).toList = vals := by rw [← hv]; simp
    rw [e]; exact hb)) h
theorem till_one {i : Nat} {o : Oper} (hi : nthOp l i = some o) (hr : Region.ready md l.toArray L = [i]) (hw : Region.wanted o (yielded l.toArray a.tmps) = true)
    (h : Oper.wp P o a w (fun a' w' => (A w' ∧ ((L.setIfInBounds i true).getD T false = false → B w')) ∧ wpTill P md l.toArray Q T A B fuel (L.setIfInBounds i true) a' w') Q) : wpTill P md l.toArray Q T A B (fuel + 1) L a w := by
  refine ⟨fun h0 => (by rw [hr] at h0; cases h0), fun j hj => ?_⟩
  rw [hr] at hj
  obtain rfl : j = i := by simpa using hj
  unfold wpOp
  rw [List.getElem?_toArray, nthOp_eq, hi]
  simp only [hw, if_true]
  exact .inl h
/-- a call, while T is to come -/
theorem till_call {i : Nat} {o : Oper} (hi : nthOp l i = some o) (hr : Region.ready md l.toArray L = [i]) (hw : Region.wanted o (yielded l.toArray a.tmps) = true)
    {f : FuncId} {args : Array Value} (he : (execOp a.eval o).run P w = .ok (.enter f args) w)
    (h : Calls P f args w fun e w' => ∃ v, e = .returned v ∧ (A w' ∧ B w') ∧ (B w' → wpTill P md l.toArray Q T A B fuel (L.setIfInBounds i true) (a.put o.dst v) w')) : wpTill P md l.toArray Q T A B (fuel + 1) L a w := by
  refine till_one hi hr hw (wp_call he (h.mono ?_))
  rintro e w' ⟨v, rfl, h1, h2⟩
  exact ⟨v, rfl, ⟨h1.1, fun _ => h1.2⟩, h2 h1.2⟩
/-- any operation once T has come up, or T itself -/
theorem till_step {i : Nat} {o : Oper} (hi : nthOp l i = some o) (hr : Region.ready md l.toArray L = [i]) (hT : (L.setIfInBounds i true).getD T false = true) (hw : Region.wanted o (yielded l.toArray a.tmps) = true)
    (h : ∀ K : Act → World → Prop, Shut (∀ a w, A w → (A w → wpTill P md l.toArray Q T A B fuel (L.setIfInBounds i true) a w) → K a w) → Oper.wp P o a w K Q) : wpTill P md l.toArray Q T A B (fuel + 1) L a w :=
  till_one hi hr hw (h _ (fun a w hA hW => ⟨⟨hA, fun h0 => (by rw [hT] at h0; cases h0)⟩, hW hA⟩))
theorem till_done (hr : Region.ready md l.toArray L = []) (h : Q .normal a w) : ∀ fuel, wpTill P md l.toArray Q T A B fuel L a w
  | 0 => ⟨hr, h⟩
  | _ + 1 => ⟨fun _ => h, by rw [hr]; simp⟩
theorem wp_region_till {id : Nat} (T : Nat) (A B : World → Prop) (hm : P.follows .mixedOrders = true) (hA : A w.drew) (hB : B w.drew)
    (h : A w.drew → B w.drew → wpTill P .any l.toArray Q T A B l.toArray.size (Array.replicate l.toArray.size false) a w.drew) : (Code.region id l.toArray true).wp P Q a w :=
  wp_region_any hm (wpAny_of_till _ _ _ _ (h hA hB))
end
end Go.Proofs.Ytfmkegblhpnfcaa

namespace Go.Proofs.Ytfmkegblhpnfcaa
open Go.RowKit
set_option maxRecDepth 100000
/-- a list of n things of k cells each, from A on -/
def Lst {α : Type} (k : Nat) (cells : α → List Value) (ok : World → α → Prop) (w : World) (A : Option Addr) (n : Nat) (l : List α) : Prop :=
  l.length = n ∧ (∀ v ∈ l, (cells v).length = k ∧ ok w v) ∧ (0 < n → ∃ ad, A = some ad ∧ ∀ i v, l[i]? = some v → ∀ j x, (cells v)[j]? = some x → w.cell? (ad.add (i * k + j)) = some x)
section
variable {α : Type} {k : Nat} {cells : α → List Value} {ok : World → α → Prop} {w w' : World} {A : Option Addr} {n : Nat} {l : List α} {S : List Nat}
theorem Lst.nil (A : Option Addr) : Lst k cells ok w A 0 [] := ⟨rfl, by simp, fun h => absurd h (by omega)⟩
theorem Lst.keep (h : Lst k cells ok w A n l) (hf : Fr S w w') (hA : ∀ a, A = some a → ¬ a.block ∈ S) (hok : ∀ v ∈ l, ok w v → ok w' v) : Lst k cells ok w' A n l :=
  ⟨h.1, fun v hv => ⟨(h.2.1 v hv).1, hok v hv (h.2.1 v hv).2⟩, fun hn => by
    obtain ⟨ad, e, hc⟩ := h.2.2 hn
    exact ⟨ad, e, fun i v hv j x hx => hf.cell (hc i v hv j x hx) (by rw [add_block]; exact hA ad e)⟩⟩
theorem Lst.at (h : Lst k cells ok w A n l) {i : Nat} (hi : i < n) : ∃ ad v, A = some ad ∧ l[i]? = some v ∧ (cells v).length = k ∧ ok w v ∧ ∀ j x, (cells v)[j]? = some x → w.cell? ((ad.add (i * k)).add j) = some x := by
  obtain ⟨ad, e, hc⟩ := h.2.2 (by omega)
  have hl : i < l.length := by rw [h.1]; exact hi
  have hv := List.getElem?_eq_getElem hl
  obtain ⟨h1, h2⟩ := h.2.1 _ (List.mem_of_getElem? hv)
  exact ⟨ad, l[i], e, hv, h1, h2, fun j x hx => by rw [add_add]; exact hc i _ hv j x hx⟩
theorem Lst.take (h : Lst k cells ok w A n l) {m : Nat} (hm : m ≤ n) : Lst k cells ok w A m (l.take m) :=
  ⟨by rw [List.length_take, h.1]; omega, fun v hv => h.2.1 v (List.mem_of_mem_take hv), fun h0 => by
    obtain ⟨ad, e, hc⟩ := h.2.2 (by omega)
    exact ⟨ad, e, fun i v hv j x hx => hc i v (by
      rw [List.getElem?_take] at hv
      split at hv
      · exact hv
      · cases hv) j x hx⟩⟩
/-- from a slice that the call owns -/
theorem flat_at {l : List α} (hk : ∀ v ∈ l, (cells v).length = k) : ∀ {i : Nat} {v : α} {j : Nat} {x : Value}, l[i]? = some v → (cells v)[j]? = some x → (l.flatMap cells)[i * k + j]? = some x := by
  induction l with
  | nil => intro i v j x hv; simp at hv
  | cons y ys ih =>
    intro i v j x hv hx
    have hy := hk y (by simp)
    rw [List.flatMap_cons]
    cases i with
    | zero =>
      simp at hv
      subst hv
      rw [Nat.zero_mul, Nat.zero_add, List.getElem?_append_left (List.getElem?_eq_some_iff.1 hx).1]
      exact hx
    | succ i =>
      rw [List.getElem?_append_right (by rw [hy, Nat.succ_mul]; omega), hy, show (i + 1) * k + j - k = i * k + j by rw [Nat.succ_mul]; omega]
      exact ih (fun v hv => hk v (by simp [hv])) (by simpa using hv) hx
theorem Lst.of_own {base : Nat} {e : TypeId} {c : Nat} (h : w.ownsRow base e k (.slice A n c) n (l.flatMap cells)) (hl : l.length = n) (hk : ∀ v ∈ l, (cells v).length = k ∧ ok w v) : Lst k cells ok w A n l := by
  refine ⟨hl, hk, fun hn => ?_⟩
  by_cases hk0 : k = 0
  · rcases h.2 with ⟨_, h0⟩ | ⟨g, cap, cur, hv, _⟩
    · omega
    · injection hv with hA
      exact ⟨_, hA, fun i v hv j x hx => by have := (hk v (List.mem_of_getElem? hv)).1; have := (List.getElem?_eq_some_iff.1 hx).1; omega⟩
  · obtain ⟨g, cap, hv, _, hlt⟩ := h.form hn
    have hA : A = some ⟨g, 0, none⟩ := by injection hv
    subst hA
    refine ⟨_, rfl, fun i v hv j x hx => ?_⟩
    exact h.cells (g := g) rfl _ _ (flat_at (fun v hv => (hk v hv).1) hv hx)
end
theorem lst_of_trod {α : Type} [Inhabited α] {H : Type} {enc : TypeId × Value → H} {w : World} {spare : Nat → Bool} {held : Bool} {k : Nat} {cells : α → List Value} {ok : World → α → Prop} {t e : TypeId} (ht : Try.prog.underlying t = some (.slice e)) (hc : Try.prog.cellsOf e = k)
    (hel : ∀ fuel cs (x : DataW H × List MemPlace), DataW.trod enc Try.prog w 0 spare held fuel e cs = some x → ∃ v : α, ok w v ∧ cs = cells v) {fuel : Nat} {A : Option Addr} {len cap : Nat} {x : DataW H × List MemPlace} (h : DataW.trod enc Try.prog w 0 spare held fuel t [.slice A len cap] = some x) :
    ∃ l : List α, Lst k cells ok w A len l ∧ len ≤ cap ∧ cap ≤ maxLen := by
  rcases Go.Deep.open_slice ht h with ⟨hcs, _⟩ | ⟨a, len', cap', m, n, D, Pl, hcs, _, hl, hm, hmm, _, hi⟩
  · simp at hcs
    obtain ⟨rfl, rfl, rfl⟩ := hcs
    exact ⟨[], Lst.nil _, Nat.le_refl _, Nat.zero_le _⟩
  · simp at hcs
    obtain ⟨rfl, rfl, rfl⟩ := hcs
    have hlm : len ≤ m := by rw [hmm]; split <;> omega
    have hv : ∀ i, i < len → ∃ v : α, (cells v).length = k ∧ ok w v ∧ ∀ j x, (cells v)[j]? = some x → w.cell? (a.add (i * k + j)) = some x := by
      intro i hil
      obtain ⟨cs', h1, h2⟩ := hi i (by omega)
      rw [hc] at h1
      obtain ⟨v, hv1, rfl⟩ := hel _ _ _ h2
      obtain ⟨_, hcl, hat⟩ := World.cells?_some h1
      refine ⟨v, hcl, hv1, fun j x hx => ?_⟩
      have hj : j < (cells v).length := (List.getElem?_eq_some_iff.1 hx).1
      have := hat j (by omega)
      rw [add_add] at this
      rw [this, hx]
    have hg : ∀ i v, ((List.range len).map (fun i => if hi : i < len then Classical.choose (hv i hi) else default))[i]? = some v → (cells v).length = k ∧ ok w v ∧ ∀ j x, (cells v)[j]? = some x → w.cell? (a.add (i * k + j)) = some x := by
      intro i v hiv
      simp only [List.getElem?_map, Option.map_eq_some_iff] at hiv
      obtain ⟨i', hk, rfl⟩ := hiv
      obtain ⟨hk1, hk2⟩ := List.getElem?_eq_some_iff.1 hk
      simp at hk1 hk2
      subst hk2
      rw [dif_pos hk1]
      exact Classical.choose_spec (hv i hk1)
    refine ⟨(List.range len).map (fun i => if hi : i < len then Classical.choose (hv i hi) else default), ⟨by simp, fun v hm => ?_, fun _ => ⟨a, rfl, fun i v hiv => (hg i v hiv).2.2⟩⟩, hl, hm⟩
    obtain ⟨i, hi⟩ := List.getElem?_of_mem hm
    exact ⟨(hg i v hi).1, (hg i v hi).2.1⟩
/-! ### loads from anywhere -/
section
variable {P : Program} {l : List Oper} {Q : Exit → Act → World → Prop} {md : Region.Mode} {S : World → Prop} {fuel : Nat} {listed : Array Bool} {a : Act} {w : World}
theorem exec_cells {ev : Operand → Value} {o : Oper} {w : World} (ty : TypeId) (x : Operand) (ho : o.op = .load ty x) (ad : Addr) (hx : ev x = .pointer (some ad)) (cs : List Value) (hr : RowTy P ty cs.length)
    (hc : ∀ j v, cs[j]? = some v → w.cell? (ad.add j) = some v) : (execOp ev o).run P w = .ok (.value (.agg cs.toArray)) w := by
  obtain ⟨h1, h2⟩ := hr
  cases hu : P.underlying ty with
  | none => rw [hu] at h1; cases h1
  | some d =>
    rw [hu] at h1
    unfold execOp
    simp only [ho, hx, Instr.loadAt, Instr.sureAddr, Sem.run_bind, Sem.run_pure, Result.andThen_ok, run_loadVar_cells w ad ty cs d hc hu (by cases d <;> simp_all [TypeDesc.isRow]) h2]
theorem cells_at {i : Nat} {oi : Oper} (hi : nthOp l i = some oi) (ht : takeOk md l.toArray listed i = true) (hw : Region.wanted oi (yielded l.toArray a.tmps) = true)
    (ty : TypeId) (x : Operand) (ho : oi.op = .load ty x) (ad : Addr) (hx : a.eval x = .pointer (some ad)) (cs : List Value) (hc : ∀ w1, S w1 → ∀ j v, cs[j]? = some v → w1.cell? (ad.add j) = some v) (hr : RowTy P ty cs.length)
    (hQ : ∀ c a w, Q (.panic c) (a.put oi.dst (.agg cs.toArray)) w → Q (.panic c) a w) (hS : S w)
    (h : wpAnyH P md l.toArray Q S fuel (listed.setIfInBounds i true) (a.put oi.dst (.agg cs.toArray)) w) : wpAnyH P md l.toArray Q S (fuel + 1) listed a w :=
  run_at hi ht hw hQ hS (fun w1 h1 => exec_cells ty x ho ad hx cs hr (hc w1 h1)) h
theorem wpList_cells {ops : Array Oper} {rest : List Oper} {op : Oper} (hw : Region.wanted op (yielded ops a.tmps) = true) (ty : TypeId) (x : Operand) (ho : op.op = .load ty x)
    (ad : Addr) (hx : a.eval x = .pointer (some ad)) (cs : List Value) (hc : ∀ j v, cs[j]? = some v → w.cell? (ad.add j) = some v) (hr : RowTy P ty cs.length)
    (h : wpList P ops Q rest (a.put op.dst (.agg cs.toArray)) w) : wpList P ops Q (op :: rest) a w :=
  BigFrame.wpList_want hw fun _ hK => wp_run (exec_cells ty x ho ad hx cs hr hc) (hK _ _ h)
end
end Go.Proofs.Ytfmkegblhpnfcaa

namespace Go.Proofs.Ytfmkegblhpnfcaa
set_option maxRecDepth 100000
open Go.RowKit
/-- a tally's cells -/
def tcells (n : Int) (bv bp : Nat) (T : List Tv) : List Value := [.int .i64 n, .map (some bv), .map (some bp)] ++ (List.range 64).map fun p => .int .i64 (lastV T p)
def valB (T : List Tv) (e : Bal) : Option Value := if cntH T e.1 e.2.1 e.2.2 = 0 then none else some (.int .i64 (cntH T e.1 e.2.1 e.2.2 : Nat))
def turnV (m : Nat) (h : List UInt8) : Value := .agg (.int .u64 (m : Int) :: h.map by8).toArray
def valP (T : List Tv) (e : Pol) : Option Value := if cntA T e.1 e.2 = 0 then none else some (turnV (mskV T e.1 e.2) (mstV T e.1 e.2))
structure TOk (n : Int) (T : List Tv) : Prop where
  gd : Gd n T
  n : 0 ≤ n ∧ n ≤ 64
  len : T.length < 1048576
def Tl (w : World) (S : List Nat) (g : Nat) (n : Int) (T : List Tv) : Prop :=
  ∃ bv bp lv lp, S = [g, bv, bp] ∧ bv ≠ bp ∧ Blk w g 59 (tcells n bv bp T).toArray ∧ MapAt balKey w bv lv ∧ MapAt polKey w bp lp ∧ (∀ x, lv.lookup x = valB T x) ∧ (∀ x, lp.lookup x = valP T x) ∧ lv.length ≤ T.length ∧ lp.length ≤ T.length
theorem Tl.keep {w w' : World} {S R : List Nat} {g : Nat} {n : Int} {T : List Tv} (h : Tl w S g n T) (hf : Fr R w w') (hn : ∀ y ∈ S, ¬ y ∈ R) : Tl w' S g n T := by
  obtain ⟨bv, bp, lv, lp, rfl, h1, h2, h3, h4, h5⟩ := h
  exact ⟨bv, bp, lv, lp, rfl, h1, h2.keep hf (hn g (by simp)), h3.keep hf (hn bv (by simp)), h4.keep hf (hn bp (by simp)), h5⟩
theorem Tl.lt {w : World} {S : List Nat} {g : Nat} {n : Int} {T : List Tv} (h : Tl w S g n T) : ∀ y ∈ S, y < w.heap.size := by
  obtain ⟨bv, bp, lv, lp, rfl, h1, h2, h3, h4, h5⟩ := h
  intro y hy
  simp at hy
  rcases hy with rfl | rfl | rfl
  · exact h2.lt
  · exact h3.lt
  · exact h4.lt
theorem Tl.mem {w : World} {S : List Nat} {g : Nat} {n : Int} {T : List Tv} (h : Tl w S g n T) : g ∈ S := by
  obtain ⟨bv, bp, lv, lp, rfl, _⟩ := h
  simp
theorem tcells_len (n : Int) (bv bp : Nat) (T : List Tv) : (tcells n bv bp T).length = 67 := by simp [tcells]
theorem tcells_at (n : Int) (bv bp : Nat) (T : List Tv) (p : Nat) (hp : p < 64) : (tcells n bv bp T)[3 + p]? = some (.int .i64 (lastV T p)) := by
  have e : 3 + p = p + 1 + 1 + 1 := by omega
  rw [e]
  simp [tcells, hp]
theorem msk_zero {T : List Tv} {k r : Int} (h : cntA T k r = 0) : mskV T k r = 0 ∧ mstV T k r = zh32 := by
  induction T with
  | nil => exact ⟨rfl, rfl⟩
  | cons v T ih =>
    rw [cntA_cons] at h
    have hc : ¬ (v.k = k ∧ v.r = r) := fun hc => by rw [if_pos hc] at h; omega
    rw [if_neg hc] at h
    unfold mskV mstV
    rw [if_neg hc, if_neg hc]
    exact ih (by omega)
theorem valB_get (T : List Tv) (e : Bal) : (valB T e).getD (.int .i64 0) = .int .i64 (cntH T e.1 e.2.1 e.2.2 : Nat) := by
  unfold valB
  split
  · rename_i h
    rw [h]
    rfl
  · rfl
theorem valP_get (T : List Tv) (e : Pol) : (valP T e).getD (turnV 0 zh32) = turnV (mskV T e.1 e.2) (mstV T e.1 e.2) := by
  unfold valP
  split
  · rename_i h
    have := msk_zero h
    rw [this.1, this.2]
    rfl
  · rfl
theorem zeroI64 (w : World) : (zeroValue 3).run Try.prog w = .ok (.int .i64 0) w := by kernel_rfl
theorem zeroTurn (w : World) : (zeroValue 63).run Try.prog w = .ok (turnV 0 zh32) w := by kernel_rfl
theorem Tl.lookB {w : World} {bv : Nat} {lv : List (Bal × Value)} {T : List Tv} (h : MapAt balKey w bv lv) (hl : ∀ x, lv.lookup x = valB T x) {k r : Int} {hs : List UInt8} (hk : bok (k, r, hs)) :
    (Instr.lookup 55 (.map (some bv)) (.agg (.int .i64 k :: .int .i64 r :: hs.map by8).toArray) false).run Try.prog w = .ok (.int .i64 (cntH T k r hs : Nat)) w := by
  have := h.look1 Try.underlying55 zeroI64 hk
  rw [hl, valB_get] at this
  exact this
theorem Tl.lookP {w : World} {bp : Nat} {lp : List (Pol × Value)} {T : List Tv} (h : MapAt polKey w bp lp) (hl : ∀ x, lp.lookup x = valP T x) {k r : Int} (hk : pok (k, r)) :
    (Instr.lookup 56 (.map (some bp)) (.agg #[.int .i64 k, .int .i64 r]) false).run Try.prog w = .ok (turnV (mskV T k r) (mstV T k r)) w := by
  have := h.look1 Try.underlying56 zeroTurn hk
  rw [hl, valP_get] at this
  exact this
theorem row_ballot : RowTy Try.prog 68 34 := ⟨by kernel_rfl, by kernel_rfl⟩
theorem row_poll : RowTy Try.prog 65 2 := ⟨by kernel_rfl, by kernel_rfl⟩
theorem row_turn : RowTy Try.prog 63 33 := ⟨by kernel_rfl, by kernel_rfl⟩
theorem row_tally : RowTy Try.prog 59 67 := ⟨by kernel_rfl, by kernel_rfl⟩
def zBal : Array Value := ((.int .i64 0 :: .int .i64 0 :: zh32.map by8 : List Value)).toArray
def zTurn : Array Value := ((.int .u64 0 :: zh32.map by8 : List Value)).toArray
def placesBal : List (Nat × Nat) := [(0, 1), (1, 1), (2, 32)]
def placesTurn : List (Nat × Nat) := [(0, 1), (1, 32)]
theorem builtBal_eq (parts : List (Nat × Value)) : Try.prog.built 68 parts = Instr.fill (placesBal.toArray[·]?) zBal parts := by kernel_rfl
theorem builtTurn_eq (parts : List (Nat × Value)) : Try.prog.built 63 parts = Instr.fill (placesTurn.toArray[·]?) zTurn parts := by kernel_rfl
theorem built_bal (k r : Int) (h : List UInt8) (hh : h.length = 32) : Try.prog.built 68 [(0, .int .i64 k), (1, .int .i64 r), (2, .agg (h.map by8).toArray)] = some (bcells (k, r, h)).toArray := by
  have hz : zBal.size = 34 := rfl
  rw [builtBal_eq, fill_step _ _ 0 0 1 _ _ rfl rfl (by rw [hz]; omega), fill_step _ _ 1 1 1 _ _ rfl rfl (by simp [splice, zBal, zh32, Value.cells]), fill_step _ _ 2 2 32 _ _ rfl (by simp [Value.cells, hh]) (by simp [splice, zBal, zh32, Value.cells]), Instr.fill]
  congr 2
  simp [splice, zBal, zh32, bcells, Value.cells, hh]
theorem built_turn (m : Nat) (h : List UInt8) (hh : h.length = 32) : Try.prog.built 63 [(0, .int .u64 (m : Int)), (1, .agg (h.map by8).toArray)] = some (.int .u64 (m : Int) :: h.map by8 : List Value).toArray := by
  have hz : zTurn.size = 33 := rfl
  rw [builtTurn_eq, fill_step _ _ 0 0 1 _ _ rfl rfl (by rw [hz]; omega), fill_step _ _ 1 1 32 _ _ rfl (by simp [Value.cells, hh]) (by simp [splice, zTurn, zh32, Value.cells]), Instr.fill]
  congr 2
  simp [splice, zTurn, zh32, Value.cells, hh]
theorem built_poll (k r : Int) : Try.prog.built 65 [(0, .int .i64 k), (1, .int .i64 r)] = some #[.int .i64 k, .int .i64 r] := by kernel_rfl
theorem isKind_any (k : Int) (w : World) : Calls Try.prog 25 #[.int .i64 k] w fun e w' => e = .returned (.bool (decide (k = 1 ∨ k = 2))) ∧ w = w' := by
  go_enter Try.func25, Try.ntmps25
  by_cases h1 : k = 1
  · subst h1
    go_wp2
    go_ret
    exact ⟨rfl, rfl⟩
  · have n1 : (k == 1) = false := by simpa using h1
    by_cases h2 : k = 2
    · subst h2
      go_wp2
      go_ret
      exact ⟨rfl, rfl⟩
    · have n2 : (k == 2) = false := by simpa using h2
      have hd : decide (k = 1 ∨ k = 2) = false := decide_eq_false (by omega)
      go_wp2
      go_ret
      exact ⟨by rw [hd]; rfl, rfl⟩
theorem bcells_all (e : Bal) : ((bcells e).toArray.all (·.oneCell')) = true := all_oneCell_toArray (by
  intro v hv
  simp only [bcells, List.mem_cons] at hv
  rcases hv with rfl | rfl | hv
  · rfl
  · rfl
  · exact by8_one _ v hv)
theorem bcells_len {e : Bal} (h : e.2.2.length = 32) : (bcells e).length = 34 := by simp [bcells, h]
set_option maxHeartbeats 1000000 in
theorem of_any2 (k r : Int) (h : List UInt8) (hh : h.length = 32) (w : World) : Calls Try.prog 26 #[.agg #[.int .i64 k, .int .i64 r], .agg (h.map by8).toArray] w fun e w' => e = .returned (.agg (.int .i64 k :: .int .i64 r :: h.map by8).toArray) ∧ Fr [] w w' := by
  obtain ⟨wa, hwa⟩ : ∃ wa, wa = ((w.alloc (Obj.cells #[.int .i64 k, .int .i64 r] 65)).alloc (Obj.cells (h.map by8).toArray 30)).alloc (Obj.cells zBal 68) := ⟨_, rfl⟩
  have hf0 : Fr [] w wa := by rw [hwa]; exact (((Fr.refl [] w).alloc _).alloc _).alloc _
  have hb1 : Blk wa w.heap.size 65 #[.int .i64 k, .int .i64 r] := by rw [hwa]; exact blk_alloc (blk_alloc (Blk.new _ _ _))
  have hb2 : Blk wa (w.heap.size + 1) 30 (h.map by8).toArray := by
    have := blk_alloc (t' := 68) (cs' := zBal) (Blk.new (w.alloc (Obj.cells #[.int .i64 k, .int .i64 r] 65)) 30 (h.map by8).toArray)
    rw [hwa]
    simpa using this
  have hb3 : Blk wa (w.heap.size + 2) 68 zBal := by
    have := Blk.new ((w.alloc (Obj.cells #[.int .i64 k, .int .i64 r] 65)).alloc (Obj.cells (h.map by8).toArray 30)) 68 zBal
    rw [hwa]
    simpa using this
  have hc0 := hb1.cell 0
  have hc1 := hb1.cell 1
  simp at hc0 hc1
  have HR2 := Lib.hid hb2.range
  have HB3 := Lib.hid hb3
  have HF0 := Lib.hid hf0
  have HWA := Lib.hid hwa
  have HH := Lib.hid hh
  have HBU := Lib.hid (built_bal k r h hh)
  have HSZ : Hid ((Try.prog.info? 68).map (·.size) = some (bcells (k, r, h)).toArray.size) := Lib.hid (by rw [List.size_toArray, bcells_len hh]; kernel_rfl)
  have HSE : Hid (zBal.size = (bcells (k, r, h)).toArray.size) := Lib.hid (by rw [show zBal.size = 34 from rfl, List.size_toArray, bcells_len hh])
  have HAL := Lib.hid (bcells_all (k, r, h))
  clear hwa hf0 hb1 hb2 hb3 hh
  show Calls _ _ _ _ fun e w' => e = .returned (.agg (bcells (k, r, h)).toArray) ∧ Fr [] w w'
  generalize (bcells (k, r, h)).toArray = C at *
  go_enter Try.func26, Try.ntmps26
  go_upto_region 1 with (fail)
  change Code.wp _ _ _ _ (((w.alloc (Obj.cells #[.int .i64 k, .int .i64 r] 65)).alloc (Obj.cells (h.map by8).toArray 30)).alloc (Obj.cells zBal 68))
  rw [← HWA.out]
  go_wp2_with (first
    | (refine wpList_row rfl 30 _ rfl _ _ rfl _ HR2.out (row_hash.of (by rw [List.length_map]; exact HH.out)) ?_)
    | (refine wpList_builtg rfl 68 _ rfl _ _ HBU.out rfl ?_)
    | (refine wpList_store_blk rfl 68 _ _ rfl (w.heap.size + 2) C rfl rfl 68 _ HB3.out HSZ.out HSE.out HAL.out ?_; intro w3 hb3 hf3))
  exact bodyPost_ret (v := .agg C) (results_cell_row Try.results26 _ _ (w.heap.size + 2) 68 C _ _ rfl hb3 Try.underlying68 rfl HSZ.out) rfl ⟨rfl, HF0.out.and hf3 (by simp)⟩
end Go.Proofs.Ytfmkegblhpnfcaa

namespace Go.Proofs.Ytfmkegblhpnfcaa
set_option maxRecDepth 100000
open Go.RowKit
theorem Tl.cell0 {w : World} {S : List Nat} {g : Nat} {n : Int} {T : List Tv} (h : Tl w S g n T) :
    ∃ bv bp lv lp, S = [g, bv, bp] ∧ bv ≠ bp ∧ w.cell? ⟨g, 0, none⟩ = some (.int .i64 n) ∧ w.cell? ⟨g, 1, none⟩ = some (.map (some bv)) ∧ w.cell? ⟨g, 2, none⟩ = some (.map (some bp)) ∧ Blk w g 59 (tcells n bv bp T).toArray ∧ MapAt balKey w bv lv ∧ MapAt polKey w bp lp ∧ (∀ x, lv.lookup x = valB T x) ∧ (∀ x, lp.lookup x = valP T x) ∧ lv.length ≤ T.length ∧ lp.length ≤ T.length := by
  obtain ⟨bv, bp, lv, lp, rfl, h1, h2, h3⟩ := h
  exact ⟨bv, bp, lv, lp, rfl, h1, (h2.cell 0).trans rfl, (h2.cell 1).trans rfl, (h2.cell 2).trans rfl, h2, h3⟩
set_option maxHeartbeats 1000000 in
theorem for_any (w : World) (S : List Nat) (g : Nat) (n : Int) (T : List Tv) (h : Tl w S g n T) (k r : Int) (hk : i64In k) (hr : i64In r) (hs : List UInt8) (hh : hs.length = 32) :
    Calls Try.prog 11 #[.pointer (some ⟨g, 0, none⟩), .int .i64 k, .int .i64 r, .agg (hs.map by8).toArray] w fun e w' => e = .returned (.int .i64 (cntH T k r hs : Nat)) ∧ Fr [] w w' := by
  obtain ⟨wa, hwa⟩ : ∃ wa, wa = w.alloc (Obj.cells (hs.map by8).toArray 30) := ⟨_, rfl⟩
  have hf0 : Fr [] w wa := by rw [hwa]; exact (Fr.refl [] w).alloc _
  have hb1 : Blk wa w.heap.size 30 (hs.map by8).toArray := by rw [hwa]; exact Blk.new _ _ _
  obtain ⟨bv, bp, lv, lp, -, -, -, c1, -, -, hm, -, hl, -, -, -⟩ := (h.keep hf0 (by simp)).cell0
  have HR1 := Lib.hid hb1.range
  have HWA := Lib.hid hwa
  have HF0 := Lib.hid hf0
  have HH := Lib.hid hh
  have HBU := Lib.hid (built_bal k r hs hh)
  have HLK := Lib.hid (fun W (hW : Fr [] wa W) => Tl.lookB (hm.keep hW (by simp)) hl (k := k) (r := r) (hs := hs) ⟨hk, hr, hh⟩)
  unfold bcells at HBU
  clear h hwa hf0 hb1 hm hl hh hk hr
  generalize hC : (.int .i64 k :: .int .i64 r :: hs.map by8 : List Value).toArray = C at *
  go_enter Try.func11, Try.ntmps11
  go_upto_region 1 with (fail)
  change Code.wp _ _ _ _ (w.alloc (Obj.cells (hs.map by8).toArray 30))
  rw [← HWA.out]
  refine wp_region_held_drew (S := Fr [] wa) (by kernel_rfl) (Fr.drew (Fr.refl _ wa)) (fun hHeld => ?_)
  refine run_at (i := 0) (v := ?_) rfl (by kernel_rfl) (by rfl) (fun _ _ _ h => h) hHeld (fun w1 hw1 => ?_) ?_
  rotate_left 1
  · skip
    go_simp
    (try (first | with_reducible rfl | (apply And.intro <;> rfl)))
  simp only [Act.put, List.setIfInBounds_toArray, List.set_cons_zero, List.set_cons_succ]
  refine run_at (i := 1) (v := ?_) rfl (by kernel_rfl) (by rfl) (fun _ _ _ h => h) hHeld (fun w1 hw1 => ?_) ?_
  rotate_left 1
  · skip
    go_simp
    (try (first | with_reducible rfl | (apply And.intro <;> rfl)))
  simp only [Act.put, List.setIfInBounds_toArray, List.set_cons_zero, List.set_cons_succ]
  refine run_at (i := 2) (v := ?_) rfl (by kernel_rfl) (by rfl) (fun _ _ _ h => h) hHeld (fun w1 hw1 => ?_) ?_
  rotate_left 1
  · skip
    go_simp
    (try (first | with_reducible rfl | (apply And.intro <;> rfl)))
  simp only [Act.put, List.setIfInBounds_toArray, List.set_cons_zero, List.set_cons_succ]
  refine run_at (i := 3) (v := ?_) rfl (by kernel_rfl) (by rfl) (fun _ _ _ h => h) hHeld (fun w1 hw1 => ?_) ?_
  rotate_left 1
  · skip
    have hcw0 := hw1.cell (c1) (by first | (simp; done) | exact HNS.out | exact HNW.out | (intro hm; have hlt := HSB.out _ hm; (try dsimp only at hlt); omega))
    go_simp
    (try (first | with_reducible rfl | (apply And.intro <;> rfl)))
  simp only [Act.put, List.setIfInBounds_toArray, List.set_cons_zero, List.set_cons_succ]
  refine run_at (i := 4) (v := ?_) rfl (by kernel_rfl) (by rfl) (fun _ _ _ h => h) hHeld (fun w1 hw1 => ?_) ?_
  rotate_left 1
  · skip
    go_simp
    (try (first | with_reducible rfl | (apply And.intro <;> rfl)))
  simp only [Act.put, List.setIfInBounds_toArray, List.set_cons_zero, List.set_cons_succ]
  refine run_at (i := 5) (v := ?_) rfl (by kernel_rfl) (by rfl) (fun _ _ _ h => h) hHeld (fun w1 hw1 => ?_) ?_
  rotate_left 1
  · skip
    go_simp
    (try (first | with_reducible rfl | (apply And.intro <;> rfl)))
  simp only [Act.put, List.setIfInBounds_toArray, List.set_cons_zero, List.set_cons_succ]
  refine row_at (i := 6) rfl (by kernel_rfl) (by rfl) _ _ rfl _ _ rfl _ (fun w1 hw1 => hw1.range (HR1.out) (by first | (simp; done) | exact HNS.out | exact HNW.out | (intro hm; have hlt := HSB.out _ hm; (try dsimp only at hlt); omega))) (row_hash.of (by rw [List.length_map]; exact HH.out)) (fun _ _ _ h => h) hHeld ?_
  simp only [Act.put, List.setIfInBounds_toArray, List.set_cons_zero, List.set_cons_succ]
  refine build_at (i := 7) rfl (by kernel_rfl) (by rfl) _ _ rfl _ _ (HBU.out) rfl (fun _ _ _ h => h) hHeld ?_
  simp only [Act.put, List.setIfInBounds_toArray, List.set_cons_zero, List.set_cons_succ]
  refine run_at (i := 8) (v := ?_) rfl (by kernel_rfl) (by rfl) (fun _ _ _ h => h) hHeld (fun w1 hw1 => ?_) ?_
  rotate_left 1
  · skip
    have hcw0 := HLK.out w1 hw1
    go_simp
    (try (first | with_reducible rfl | (apply And.intro <;> rfl)))
  simp only [Act.put, List.setIfInBounds_toArray, List.set_cons_zero, List.set_cons_succ]
  refine run_at (i := 9) (v := ?_) rfl (by kernel_rfl) (by rfl) (fun _ _ _ h => h) hHeld (fun w1 hw1 => ?_) ?_
  rotate_left 1
  · skip
    go_simp
    (try (first | with_reducible rfl | (apply And.intro <;> rfl)))
  simp only [Act.put, List.setIfInBounds_toArray, List.set_cons_zero, List.set_cons_succ]
  refine wpAnyH_done (by kernel_rfl) ?_ _
  have HFF := Lib.hid (HF0.out.and hHeld (by simp))
  clear hHeld
  go_wp2
  go_ret
  exact ⟨rfl, HFF.out⟩
theorem field_turn0 (m : Int) (L : List Value) (w : World) : (Instr.field 63 (.agg (.int .u64 m :: L).toArray) 0).run Try.prog w = .ok (.int .u64 m) w := by kernel_rfl
set_option maxHeartbeats 1000000 in
theorem all_any (w : World) (S : List Nat) (g : Nat) (n : Int) (T : List Tv) (h : Tl w S g n T) (hT : TOk n T) (k r : Int) (hk : i64In k) (hr : i64In r) :
    Calls Try.prog 9 #[.pointer (some ⟨g, 0, none⟩), .int .i64 k, .int .i64 r] w fun e w' => e = .returned (.int .i64 (cntA T k r : Nat)) ∧ w = w' := by
  obtain ⟨bv, bp, lv, lp, -, -, -, -, c2, -, -, hm, -, hl, -, -⟩ := h.cell0
  have hlk := Tl.lookP hm hl (k := k) (r := r) ⟨hk, hr⟩
  have hpo := built_poll k r
  have HLT := Lib.hid (mskV_lt hT.gd hT.n.2 k r)
  have HPM := Lib.hid (pop_msk hT.gd hT.n.2 k r)
  unfold turnV at hlk
  generalize mskV T k r = m at *
  generalize (mstV T k r).map by8 = L at *
  have hfl := field_turn0 (m : Int) L w
  clear h hm hl hk hr hT
  go_enter Try.func9, Try.ntmps9
  go_wp2_with fail
  refine (ones_any m HLT.out w).mono ?_
  rw [HPM.out]
  rintro e w1 ⟨rfl, rfl⟩
  go_wp2
  go_ret
  exact ⟨rfl, rfl⟩
theorem field_turn (m : Int) (L : List Value) (w : World) : (Instr.field 63 (.agg (.int .u64 m :: L).toArray) 1).run Try.prog w = .ok (.agg ((.int .u64 m :: L).toArray.extract 1 33)) w := by kernel_rfl
theorem field_turn1 (m : Nat) (h : List UInt8) (hh : h.length = 32) (w : World) : (Instr.field 63 (.agg (.int .u64 (m : Int) :: h.map by8).toArray) 1).run Try.prog w = .ok (.agg (h.map by8).toArray) w := by
  rw [field_turn]
  have e : (Value.int .u64 (m : Int) :: h.map by8).toArray.extract 1 33 = (h.map by8).toArray := by
    simp [List.extract_eq_take_drop, hh]
    rw [List.take_of_length_le (by simp [hh])]
  rw [e]
set_option maxHeartbeats 1000000 in
theorem most_any (w : World) (S : List Nat) (g : Nat) (n : Int) (T : List Tv) (h : Tl w S g n T) (hT : TOk n T) (k r : Int) (hk : i64In k) (hr : i64In r) :
    Calls Try.prog 12 #[.pointer (some ⟨g, 0, none⟩), .int .i64 k, .int .i64 r] w fun e w' => e = .returned (.tuple #[.agg ((mstV T k r).map by8).toArray, .int .i64 (cntH T k r (mstV T k r) : Nat)]) ∧ Fr [] w w' := by
  obtain ⟨wa, hwa⟩ : ∃ wa, wa = w.alloc (Obj.cells zeroH 30) := ⟨_, rfl⟩
  have hf0 : Fr [] w wa := by rw [hwa]; exact (Fr.refl [] w).alloc _
  have hb0 : Blk wa w.heap.size 30 zeroH := by rw [hwa]; exact Blk.new _ _ _
  have ht := h.keep hf0 (by simp)
  obtain ⟨bv, bp, lv, lp, -, -, -, -, c2, -, -, hm, -, hl, -, -⟩ := ht.cell0
  have hlk := Tl.lookP hm hl (k := k) (r := r) ⟨hk, hr⟩
  have hpo := built_poll k r
  have HML := Lib.hid (mstV_len hT.gd k r)
  have HFO := Lib.hid (fun W (hW : Fr [] wa W) => for_any W S g n T (ht.keep hW (by simp)) k r hk hr (mstV T k r) HML.out)
  unfold turnV at hlk
  have HWA := Lib.hid hwa
  have HF0 := Lib.hid hf0
  have HB0 := Lib.hid hb0
  clear h ht hm hl hk hr hT hwa hf0 hb0
  generalize cntH T k r (mstV T k r) = q at *
  generalize mstV T k r = H at *
  generalize mskV T k r = m at *
  have hfl := field_turn1 m H HML.out
  have HHS : Hid ((Try.prog.info? 30).map (·.size) = some (H.map by8).toArray.size) := Lib.hid (by rw [List.size_toArray, List.length_map, HML.out]; kernel_rfl)
  have HHZ : Hid (zeroH.size = (H.map by8).toArray.size) := Lib.hid (by rw [show zeroH.size = 32 from rfl, List.size_toArray, List.length_map, HML.out])
  have HHA : Hid (((H.map by8).toArray.all (·.oneCell')) = true) := Lib.hid (all_oneCell_toArray (by8_one H))
  go_enter Try.func12, Try.ntmps12
  go_upto_region 1 with (fail)
  change Code.wp _ _ _ _ (w.alloc (Obj.cells zeroH 30))
  rw [← HWA.out]
  go_upto_region 2 with (refine wpList_store_blk rfl 30 _ _ rfl wa.heap.size (H.map by8).toArray rfl rfl 30 zeroH (Blk.new wa _ _) HHS.out HHZ.out HHA.out ?_; intro w1 hb1 hf1)
  have HF1 : Hid (Fr [] wa w1) := Lib.hid (((Fr.refl [] wa).alloc _).and hf1 (by simp))
  have HR1 := Lib.hid hb1.range
  have HB01 := Lib.hid (HB0.out.keep HF1.out (by simp))
  have HG1 : Hid (w.heap.size < wa.heap.size ∧ wa.heap.size < w1.heap.size) := Lib.hid ⟨HB0.out.lt, hb1.lt⟩
  obtain ⟨g8, hg8⟩ : ∃ g8, g8 = wa.heap.size := ⟨_, rfl⟩
  rw [← hg8] at HR1 HG1 ⊢
  clear hb1 hf1 hlk hpo hfl c2 hg8
  have HNS : Hid (¬ g8 ∈ [w.heap.size]) := Lib.hid (by have := HG1.out; simp; omega)
  refine wp_region_held_drew (S := Fr [w.heap.size] w1) (by kernel_rfl) (Fr.drew (Fr.refl _ w1)) (fun hHeld => ?_)
  refine row_at (i := 0) rfl (by kernel_rfl) (by rfl) _ _ rfl _ _ rfl _ (fun w1 hw1 => hw1.range (HR1.out) (by first | (simp; done) | exact HNS.out | exact HNW.out | (intro hm; have hlt := HSB.out _ hm; (try dsimp only at hlt); omega))) (row_hash.of (by rw [List.length_map]; exact HML.out)) (fun _ _ _ h => h) hHeld ?_
  simp only [Act.put, List.setIfInBounds_toArray, List.set_cons_zero, List.set_cons_succ]
  refine run_at (i := 1) (v := ?_) rfl (by kernel_rfl) (by rfl) (fun _ _ _ h => h) hHeld (fun w1 hw1 => ?_) ?_
  rotate_left 1
  · skip
    go_simp
    (try (first | with_reducible rfl | (apply And.intro <;> rfl)))
  simp only [Act.put, List.setIfInBounds_toArray, List.set_cons_zero, List.set_cons_succ]
  refine run_at (i := 2) (v := ?_) rfl (by kernel_rfl) (by rfl) (fun _ _ _ h => h) hHeld (fun w1 hw1 => ?_) ?_
  rotate_left 1
  · skip
    go_simp
    (try (first | with_reducible rfl | (apply And.intro <;> rfl)))
  simp only [Act.put, List.setIfInBounds_toArray, List.set_cons_zero, List.set_cons_succ]
  refine run_at (i := 3) (v := ?_) rfl (by kernel_rfl) (by rfl) (fun _ _ _ h => h) hHeld (fun w1 hw1 => ?_) ?_
  rotate_left 1
  · skip
    go_simp
    (try (first | with_reducible rfl | (apply And.intro <;> rfl)))
  simp only [Act.put, List.setIfInBounds_toArray, List.set_cons_zero, List.set_cons_succ]
  refine row_at (i := 4) rfl (by kernel_rfl) (by rfl) _ _ rfl _ _ rfl _ (fun w1 hw1 => hw1.range (HR1.out) (by first | (simp; done) | exact HNS.out | exact HNW.out | (intro hm; have hlt := HSB.out _ hm; (try dsimp only at hlt); omega))) (row_hash.of (by rw [List.length_map]; exact HML.out)) (fun _ _ _ h => h) hHeld ?_
  simp only [Act.put, List.setIfInBounds_toArray, List.set_cons_zero, List.set_cons_succ]
  refine call_at (i := 5) (f := ?_) (args := ?_) rfl (by kernel_rfl) (by rfl) ?_ ?_
  rotate_left 2
  · go_simp
    (try (first | with_reducible rfl | (apply And.intro <;> rfl)))
  refine (HFO.out _ (HF1.out.drew)).mono ?_
  rintro e w2 ⟨rfl, hf2⟩
  refine ⟨_, rfl, hHeld.trans hf2 (by simp), fun hHeld => ?_⟩
  have HB2 := Lib.hid ((HB01.out.keep (Fr.drew (Fr.refl [] _)) (by simp)).keep hf2 (by simp))
  clear hf2
  simp only [Act.put, List.setIfInBounds_toArray, List.set_cons_zero, List.set_cons_succ]
  refine step_at (i := 6) rfl (by kernel_rfl) (by rfl) (fun K hK => ?_)
  refine wp_store_blk 30 _ _ rfl w.heap.size (H.map by8).toArray rfl rfl 30 zeroH HB2.out HHS.out HHZ.out HHA.out ?_
  intro w3 hb3 hf3
  refine hK.out _ _ (hHeld.trans hf3 (fun x hx _ => hx)) (fun hHeld => ?_)
  clear hK K
  simp only [Act.put, List.setIfInBounds_toArray, List.set_cons_zero, List.set_cons_succ]
  refine run_at (i := 7) (v := ?_) rfl (by kernel_rfl) (by rfl) (fun _ _ _ h => h) hHeld (fun w1 hw1 => ?_) ?_
  rotate_left 1
  · skip
    go_simp
    (try (first | with_reducible rfl | (apply And.intro <;> rfl)))
  simp only [Act.put, List.setIfInBounds_toArray, List.set_cons_zero, List.set_cons_succ]
  refine wpAnyH_done (by kernel_rfl) ?_ _
  have HHL := Lib.hid hHeld
  clear hHeld
  go_wp2
  refine bodyPost_ret (v := .tuple #[.agg (H.map by8).toArray, .int .i64 q]) (results_ct Try.results12 _ _ w.heap.size 30 _ _ _ (.int .i64 q) rfl rfl hb3 Try.underlying30 rfl HHS.out) rfl ⟨rfl, ?_⟩
  exact (HF0.out.and HF1.out (by simp)).and HHL.out (by simp)
end Go.Proofs.Ytfmkegblhpnfcaa

namespace Go.Proofs.Ytfmkegblhpnfcaa
set_option maxRecDepth 100000
open Go.RowKit
set_option maxHeartbeats 2000000 in
theorem better_any (w : World) (g : Nat) (bv : Nat) (lv : List (Bal × Value)) (T : List Tv) (c1 : w.cell? ⟨g, 1, none⟩ = some (.map (some bv))) (hm : MapAt balKey w bv lv) (hl : ∀ x, lv.lookup x = valB T x) (k r : Int) (hk : i64In k) (hr : i64In r) (a b : List UInt8) (ha : a.length = 32) (hb : b.length = 32) (hT : T.length < 1048577) :
    Calls Try.prog 27 #[.pointer (some ⟨g, 0, none⟩), .agg #[.int .i64 k, .int .i64 r], .agg (a.map by8).toArray, .agg (b.map by8).toArray] w fun e w' => e = .returned (.agg ((betV (cntH T k r) a b).map by8).toArray) ∧ Fr [] w w' := by
  obtain ⟨wa, hwa⟩ : ∃ wa, wa = (((w.alloc (Obj.cells #[.int .i64 k, .int .i64 r] 65)).alloc (Obj.cells (a.map by8).toArray 30)).alloc (Obj.cells (b.map by8).toArray 30)).alloc (Obj.cells zeroH 30) := ⟨_, rfl⟩
  have hf0 : Fr [] w wa := by rw [hwa]; exact ((((Fr.refl [] w).alloc _).alloc _).alloc _).alloc _
  have hb1 : Blk wa w.heap.size 65 #[.int .i64 k, .int .i64 r] := by rw [hwa]; exact blk_alloc (blk_alloc (blk_alloc (Blk.new _ _ _)))
  have hb2 : Blk wa (w.heap.size + 1) 30 (a.map by8).toArray := by
    have := blk_alloc (t' := 30) (cs' := zeroH) (blk_alloc (t' := 30) (cs' := (b.map by8).toArray) (Blk.new (w.alloc (Obj.cells #[.int .i64 k, .int .i64 r] 65)) 30 (a.map by8).toArray))
    rw [hwa]
    simpa using this
  have hb3 : Blk wa (w.heap.size + 2) 30 (b.map by8).toArray := by
    have := blk_alloc (t' := 30) (cs' := zeroH) (Blk.new ((w.alloc (Obj.cells #[.int .i64 k, .int .i64 r] 65)).alloc (Obj.cells (a.map by8).toArray 30)) 30 (b.map by8).toArray)
    rw [hwa]
    simpa using this
  have hb4 : Blk wa (w.heap.size + 3) 30 zeroH := by
    have := Blk.new (((w.alloc (Obj.cells #[.int .i64 k, .int .i64 r] 65)).alloc (Obj.cells (a.map by8).toArray 30)).alloc (Obj.cells (b.map by8).toArray 30)) 30 zeroH
    rw [hwa]
    simpa using this
  have c1a := hf0.cell c1 (by simp)
  have hma := hm.keep hf0 (by simp)
  have HR1 := Lib.hid hb1.range
  have HR2 := Lib.hid hb2.range
  have HR3 := Lib.hid hb3.range
  have HB4 := Lib.hid hb4
  have HWA := Lib.hid hwa
  have HF0 := Lib.hid hf0
  have HA := Lib.hid ha
  have HB := Lib.hid hb
  have HOA := Lib.hid (fun W => of_any2 k r a ha W)
  have HOB := Lib.hid (fun W => of_any2 k r b hb W)
  have HLA := Lib.hid (fun W (hW : Fr [] wa W) => Tl.lookB (hma.keep hW (by simp)) hl (k := k) (r := r) (hs := a) ⟨hk, hr, ha⟩)
  have HLB := Lib.hid (fun W (hW : Fr [] wa W) => Tl.lookB (hma.keep hW (by simp)) hl (k := k) (r := r) (hs := b) ⟨hk, hr, hb⟩)
  have HLS := Lib.hid (fun W => less_any a b ha hb W)
  have HCA : Hid (cntH T k r a < 1048577) := Lib.hid (Nat.lt_of_le_of_lt (cntH_le T k r a) hT)
  have HCB : Hid (cntH T k r b < 1048577) := Lib.hid (Nat.lt_of_le_of_lt (cntH_le T k r b) hT)
  have HBT : Hid (betV (cntH T k r) a b = if cntH T k r b < cntH T k r a ∨ (cntH T k r a = cntH T k r b ∧ lessB a b = true) then a else b) := Lib.hid rfl
  clear hwa hf0 hb1 hb2 hb3 hb4 c1 hm hma hl hk hr ha hb hT
  generalize betV (cntH T k r) a b = Z at *
  generalize cntH T k r a = x at *
  generalize cntH T k r b = y at *
  generalize hCA : (.int .i64 k :: .int .i64 r :: a.map by8 : List Value).toArray = CA at *
  generalize hCB : (.int .i64 k :: .int .i64 r :: b.map by8 : List Value).toArray = CB at *
  clear hCA hCB
  go_enter Try.func27, Try.ntmps27
  go_upto_region 1 with (fail)
  change Code.wp _ _ _ _ ((((w.alloc (Obj.cells #[.int .i64 k, .int .i64 r] 65)).alloc (Obj.cells (a.map by8).toArray 30)).alloc (Obj.cells (b.map by8).toArray 30)).alloc (Obj.cells zeroH 30))
  rw [← HWA.out]
  refine wp_region_held_drew (S := Fr [] wa) (by kernel_rfl) (Fr.drew (Fr.refl _ wa)) (fun hHeld => ?_)
  refine run_at (i := 0) (v := ?_) rfl (by kernel_rfl) (by rfl) (fun _ _ _ h => h) hHeld (fun w1 hw1 => ?_) ?_
  rotate_left 1
  · skip
    go_simp
    (try (first | with_reducible rfl | (apply And.intro <;> rfl)))
  simp only [Act.put, List.setIfInBounds_toArray, List.set_cons_zero, List.set_cons_succ]
  refine run_at (i := 1) (v := ?_) rfl (by kernel_rfl) (by rfl) (fun _ _ _ h => h) hHeld (fun w1 hw1 => ?_) ?_
  rotate_left 1
  · skip
    go_simp
    (try (first | with_reducible rfl | (apply And.intro <;> rfl)))
  simp only [Act.put, List.setIfInBounds_toArray, List.set_cons_zero, List.set_cons_succ]
  refine run_at (i := 2) (v := ?_) rfl (by kernel_rfl) (by rfl) (fun _ _ _ h => h) hHeld (fun w1 hw1 => ?_) ?_
  rotate_left 1
  · skip
    go_simp
    (try (first | with_reducible rfl | (apply And.intro <;> rfl)))
  simp only [Act.put, List.setIfInBounds_toArray, List.set_cons_zero, List.set_cons_succ]
  refine run_at (i := 3) (v := ?_) rfl (by kernel_rfl) (by rfl) (fun _ _ _ h => h) hHeld (fun w1 hw1 => ?_) ?_
  rotate_left 1
  · skip
    have hcw0 := hw1.cell (c1a) (by first | (simp; done) | exact HNS.out | exact HNW.out | (intro hm; have hlt := HSB.out _ hm; (try dsimp only at hlt); omega))
    go_simp
    (try (first | with_reducible rfl | (apply And.intro <;> rfl)))
  simp only [Act.put, List.setIfInBounds_toArray, List.set_cons_zero, List.set_cons_succ]
  refine row_at (i := 4) rfl (by kernel_rfl) (by rfl) _ _ rfl _ _ rfl _ (fun w1 hw1 => hw1.range (HR1.out) (by first | (simp; done) | exact HNS.out | exact HNW.out | (intro hm; have hlt := HSB.out _ hm; (try dsimp only at hlt); omega))) (row_poll) (fun _ _ _ h => h) hHeld ?_
  simp only [Act.put, List.setIfInBounds_toArray, List.set_cons_zero, List.set_cons_succ]
  refine row_at (i := 5) rfl (by kernel_rfl) (by rfl) _ _ rfl _ _ rfl _ (fun w1 hw1 => hw1.range (HR2.out) (by first | (simp; done) | exact HNS.out | exact HNW.out | (intro hm; have hlt := HSB.out _ hm; (try dsimp only at hlt); omega))) (row_hash.of (by rw [List.length_map]; exact HA.out)) (fun _ _ _ h => h) hHeld ?_
  simp only [Act.put, List.setIfInBounds_toArray, List.set_cons_zero, List.set_cons_succ]
  refine run_at (i := 8) (v := ?_) rfl (by kernel_rfl) (by rfl) (fun _ _ _ h => h) hHeld (fun w1 hw1 => ?_) ?_
  rotate_left 1
  · skip
    go_simp
    (try (first | with_reducible rfl | (apply And.intro <;> rfl)))
  simp only [Act.put, List.setIfInBounds_toArray, List.set_cons_zero, List.set_cons_succ]
  refine run_at (i := 9) (v := ?_) rfl (by kernel_rfl) (by rfl) (fun _ _ _ h => h) hHeld (fun w1 hw1 => ?_) ?_
  rotate_left 1
  · skip
    go_simp
    (try (first | with_reducible rfl | (apply And.intro <;> rfl)))
  simp only [Act.put, List.setIfInBounds_toArray, List.set_cons_zero, List.set_cons_succ]
  refine run_at (i := 10) (v := ?_) rfl (by kernel_rfl) (by rfl) (fun _ _ _ h => h) hHeld (fun w1 hw1 => ?_) ?_
  rotate_left 1
  · skip
    go_simp
    (try (first | with_reducible rfl | (apply And.intro <;> rfl)))
  simp only [Act.put, List.setIfInBounds_toArray, List.set_cons_zero, List.set_cons_succ]
  refine run_at (i := 11) (v := ?_) rfl (by kernel_rfl) (by rfl) (fun _ _ _ h => h) hHeld (fun w1 hw1 => ?_) ?_
  rotate_left 1
  · skip
    have hcw0 := hw1.cell (c1a) (by first | (simp; done) | exact HNS.out | exact HNW.out | (intro hm; have hlt := HSB.out _ hm; (try dsimp only at hlt); omega))
    go_simp
    (try (first | with_reducible rfl | (apply And.intro <;> rfl)))
  simp only [Act.put, List.setIfInBounds_toArray, List.set_cons_zero, List.set_cons_succ]
  refine row_at (i := 12) rfl (by kernel_rfl) (by rfl) _ _ rfl _ _ rfl _ (fun w1 hw1 => hw1.range (HR1.out) (by first | (simp; done) | exact HNS.out | exact HNW.out | (intro hm; have hlt := HSB.out _ hm; (try dsimp only at hlt); omega))) (row_poll) (fun _ _ _ h => h) hHeld ?_
  simp only [Act.put, List.setIfInBounds_toArray, List.set_cons_zero, List.set_cons_succ]
  refine row_at (i := 13) rfl (by kernel_rfl) (by rfl) _ _ rfl _ _ rfl _ (fun w1 hw1 => hw1.range (HR3.out) (by first | (simp; done) | exact HNS.out | exact HNW.out | (intro hm; have hlt := HSB.out _ hm; (try dsimp only at hlt); omega))) (row_hash.of (by rw [List.length_map]; exact HB.out)) (fun _ _ _ h => h) hHeld ?_
  simp only [Act.put, List.setIfInBounds_toArray, List.set_cons_zero, List.set_cons_succ]
  refine call_at (i := 6) (f := ?_) (args := ?_) rfl (by kernel_rfl) (by rfl) ?_ ?_
  rotate_left 2
  · go_simp
    (try (first | with_reducible rfl | (apply And.intro <;> rfl)))
  refine (HOA.out _).mono ?_
  rintro e w1 ⟨rfl, hf1⟩
  refine ⟨_, rfl, hHeld.and hf1 (by simp), fun hHeld => ?_⟩
  clear hf1
  simp only [Act.put, List.setIfInBounds_toArray, List.set_cons_zero, List.set_cons_succ]
  refine run_at (i := 7) (v := ?_) rfl (by kernel_rfl) (by rfl) (fun _ _ _ h => h) hHeld (fun w1 hw1 => ?_) ?_
  rotate_left 1
  · skip
    have hcw0 := HLA.out w1 hw1
    go_simp
    (try (first | with_reducible rfl | (apply And.intro <;> rfl)))
  simp only [Act.put, List.setIfInBounds_toArray, List.set_cons_zero, List.set_cons_succ]
  refine call_at (i := 14) (f := ?_) (args := ?_) rfl (by kernel_rfl) (by rfl) ?_ ?_
  rotate_left 2
  · go_simp
    (try (first | with_reducible rfl | (apply And.intro <;> rfl)))
  refine (HOB.out _).mono ?_
  rintro e w2 ⟨rfl, hf2⟩
  refine ⟨_, rfl, hHeld.and hf2 (by simp), fun hHeld => ?_⟩
  clear hf2
  simp only [Act.put, List.setIfInBounds_toArray, List.set_cons_zero, List.set_cons_succ]
  refine run_at (i := 15) (v := ?_) rfl (by kernel_rfl) (by rfl) (fun _ _ _ h => h) hHeld (fun w1 hw1 => ?_) ?_
  rotate_left 1
  · skip
    have hcw0 := HLB.out w1 hw1
    go_simp
    (try (first | with_reducible rfl | (apply And.intro <;> rfl)))
  simp only [Act.put, List.setIfInBounds_toArray, List.set_cons_zero, List.set_cons_succ]
  refine run_at (i := 16) (v := ?_) rfl (by kernel_rfl) (by rfl) (fun _ _ _ h => h) hHeld (fun w1 hw1 => ?_) ?_
  rotate_left 1
  · skip
    go_simp
    (try (first | with_reducible rfl | (apply And.intro <;> rfl)))
  simp only [Act.put, List.setIfInBounds_toArray, List.set_cons_zero, List.set_cons_succ]
  refine run_at (i := 17) (v := ?_) rfl (by kernel_rfl) (by rfl) (fun _ _ _ h => h) hHeld (fun w1 hw1 => ?_) ?_
  rotate_left 1
  · skip
    go_simp
    (try (first | with_reducible rfl | (apply And.intro <;> rfl)))
  simp only [Act.put, List.setIfInBounds_toArray, List.set_cons_zero, List.set_cons_succ]
  refine wpAnyH_done (by kernel_rfl) ?_ _
  have HF2 := Lib.hid hHeld
  have HRA := Lib.hid (HF2.out.range HR2.out (by simp))
  have HRB := Lib.hid (HF2.out.range HR3.out (by simp))
  have HB42 := Lib.hid (HB4.out.keep HF2.out (by simp))
  clear hHeld c1a
  have hx64 : (x : Int) < 1048577 := by have := HCA.out; omega
  have hy64 : (y : Int) < 1048577 := by have := HCB.out; omega
  by_cases h1 : y < x
  · have hd : decide (y < x) = true := decide_eq_true h1
    have HH1 := Lib.hid h1
    clear h1
    have HHS : Hid ((Try.prog.info? 30).map (·.size) = some (a.map by8).toArray.size) := Lib.hid (by rw [List.size_toArray, List.length_map, HA.out]; kernel_rfl)
    have HHZ : Hid (zeroH.size = (a.map by8).toArray.size) := Lib.hid (by rw [show zeroH.size = 32 from rfl, List.size_toArray, List.length_map, HA.out])
    have HHA : Hid (((a.map by8).toArray.all (·.oneCell')) = true) := Lib.hid (all_oneCell_toArray (by8_one a))
    go_wp2_with (first
      | (refine wpList_row rfl 30 _ rfl _ _ rfl _ HRA.out (row_hash.of (by rw [List.length_map]; exact HA.out)) ?_)
      | (refine wpList_store_blk rfl 30 _ _ rfl (w.heap.size + 3) (a.map by8).toArray rfl rfl 30 zeroH HB42.out HHS.out HHZ.out HHA.out ?_; intro w9 hb9 hf9))
    refine bodyPost_ret (v := .agg (a.map by8).toArray) (results_cell_row Try.results27 _ _ (w.heap.size + 3) 30 _ _ _ rfl hb9 Try.underlying30 rfl HHS.out) rfl ⟨by rw [HBT.out, if_pos (.inl HH1.out)], ((HF0.out.and HF2.out (by simp))).and hf9 (by simp)⟩
  · have hd : decide (y < x) = false := decide_eq_false h1
    have HH1 := Lib.hid h1
    clear h1
    by_cases h2 : x = y
    · subst h2
      go_wp2_with (first
        | (refine wpList_row rfl 30 _ rfl _ _ rfl _ HRA.out (row_hash.of (by rw [List.length_map]; exact HA.out)) ?_)
        | (refine wpList_row rfl 30 _ rfl _ _ rfl _ HRB.out (row_hash.of (by rw [List.length_map]; exact HB.out)) ?_))
      refine (HLS.out _).mono ?_
      obtain ⟨q, hq⟩ : ∃ q, q = lessB a b := ⟨_, rfl⟩
      rw [← hq]
      have HQ := Lib.hid hq
      clear hq
      rintro e w3 ⟨rfl, hf3⟩
      have HF3 := Lib.hid (HF2.out.and hf3 (by simp))
      have HRA3 := Lib.hid (hf3.range HRA.out (by simp))
      have HRB3 := Lib.hid (hf3.range HRB.out (by simp))
      have HB43 := Lib.hid (HB42.out.keep hf3 (by simp))
      clear hf3
      cases q with
      | true =>
        have HHS : Hid ((Try.prog.info? 30).map (·.size) = some (a.map by8).toArray.size) := Lib.hid (by rw [List.size_toArray, List.length_map, HA.out]; kernel_rfl)
        have HHZ : Hid (zeroH.size = (a.map by8).toArray.size) := Lib.hid (by rw [show zeroH.size = 32 from rfl, List.size_toArray, List.length_map, HA.out])
        have HHA : Hid (((a.map by8).toArray.all (·.oneCell')) = true) := Lib.hid (all_oneCell_toArray (by8_one a))
        go_wp2_with (first
          | (refine wpList_row rfl 30 _ rfl _ _ rfl _ HRA3.out (row_hash.of (by rw [List.length_map]; exact HA.out)) ?_)
          | (refine wpList_store_blk rfl 30 _ _ rfl (w.heap.size + 3) (a.map by8).toArray rfl rfl 30 zeroH HB43.out HHS.out HHZ.out HHA.out ?_; intro w9 hb9 hf9))
        refine bodyPost_ret (v := .agg (a.map by8).toArray) (results_cell_row Try.results27 _ _ (w.heap.size + 3) 30 _ _ _ rfl hb9 Try.underlying30 rfl HHS.out) rfl ⟨by rw [HBT.out, if_pos (.inr ⟨by simp, HQ.out.symm⟩)], ((HF0.out.and HF3.out (by simp))).and hf9 (by simp)⟩
      | false =>
        have HHS : Hid ((Try.prog.info? 30).map (·.size) = some (b.map by8).toArray.size) := Lib.hid (by rw [List.size_toArray, List.length_map, HB.out]; kernel_rfl)
        have HHZ : Hid (zeroH.size = (b.map by8).toArray.size) := Lib.hid (by rw [show zeroH.size = 32 from rfl, List.size_toArray, List.length_map, HB.out])
        have HHA : Hid (((b.map by8).toArray.all (·.oneCell')) = true) := Lib.hid (all_oneCell_toArray (by8_one b))
        go_wp2_with (first
          | (refine wpList_row rfl 30 _ rfl _ _ rfl _ HRB3.out (row_hash.of (by rw [List.length_map]; exact HB.out)) ?_)
          | (refine wpList_store_blk rfl 30 _ _ rfl (w.heap.size + 3) (b.map by8).toArray rfl rfl 30 zeroH HB43.out HHS.out HHZ.out HHA.out ?_; intro w9 hb9 hf9))
        refine bodyPost_ret (v := .agg (b.map by8).toArray) (results_cell_row Try.results27 _ _ (w.heap.size + 3) 30 _ _ _ rfl hb9 Try.underlying30 rfl HHS.out) rfl ⟨by rw [HBT.out, if_neg (fun h => by rcases h with h | h; exact HH1.out h; rw [← HQ.out] at h; exact absurd h.2 (by simp))], ((HF0.out.and HF3.out (by simp))).and hf9 (by simp)⟩
    · have n2 : ((x : Int) == (y : Int)) = false := by simp; omega
      have HH2 := Lib.hid h2
      clear h2
      have HHS : Hid ((Try.prog.info? 30).map (·.size) = some (b.map by8).toArray.size) := Lib.hid (by rw [List.size_toArray, List.length_map, HB.out]; kernel_rfl)
      have HHZ : Hid (zeroH.size = (b.map by8).toArray.size) := Lib.hid (by rw [show zeroH.size = 32 from rfl, List.size_toArray, List.length_map, HB.out])
      have HHA : Hid (((b.map by8).toArray.all (·.oneCell')) = true) := Lib.hid (all_oneCell_toArray (by8_one b))
      go_wp2_with (first
        | (refine wpList_row rfl 30 _ rfl _ _ rfl _ HRB.out (row_hash.of (by rw [List.length_map]; exact HB.out)) ?_)
        | (refine wpList_store_blk rfl 30 _ _ rfl (w.heap.size + 3) (b.map by8).toArray rfl rfl 30 zeroH HB42.out HHS.out HHZ.out HHA.out ?_; intro w9 hb9 hf9))
      refine bodyPost_ret (v := .agg (b.map by8).toArray) (results_cell_row Try.results27 _ _ (w.heap.size + 3) 30 _ _ _ rfl hb9 Try.underlying30 rfl HHS.out) rfl ⟨by rw [HBT.out, if_neg (fun h => by rcases h with h | h; exact HH1.out h; exact HH2.out h.1)], ((HF0.out.and HF2.out (by simp))).and hf9 (by simp)⟩
end Go.Proofs.Ytfmkegblhpnfcaa

namespace Go.Proofs.Ytfmkegblhpnfcaa
set_option maxRecDepth 100000
open Go.RowKit
section
open Go.WideElems Go.ChangeMaps Go.WideMaps
variable {H : Type} {P : Program} {w : World} {t k e : TypeId} {R : Value → Option (DataW H × List MemPlace)} {b : Nat} {es : Array MapEntry} {clock : Nat}
theorem entry_update (K : KeyLaw P k) (ht : P.underlying t = some (.map k e)) {z : Value} (hz : ∀ u : World, (zeroValue e).run P u = .ok z u) (hb : w.heap[b]? = some (.map es clock)) (F : Fit P k R es clock) {key : Value} {kl : Lit} (hkey : keyOf P k key = some kl) :
    ∃ v0 st w1, (Instr.mapEntry t (.map (some b)) key).run P w = .ok (.tuple #[v0, goInt st]) w1 ∧ (Instr.mapUpdate t (.map (some b)) key v0).run P w = .ok () w1 ∧ (Instr.lookup t (.map (some b)) key false).run P w = .ok v0 w := by
  rcases K.find w hkey es.toList F.keys with ⟨h1, h2⟩ | ⟨j, e0, h1, h2, h3⟩
  · refine ⟨z, clock, setBlock w b (.map (es.push ⟨key, z, clock⟩) (clock + 1)), ?_, ?_, ?_⟩
    · simp [Instr.mapEntry, run_underlying ht, MapKept.run_getObj_map hb, K.check w false hkey, h1, hz, MapKept.run_setObj_map _ hb, Result.andThen, setBlock]
    · simp [Instr.mapUpdate, run_underlying ht, MapKept.run_getObj_map hb, K.check w false hkey, h1, MapKept.run_setObj_map _ hb, Result.andThen, setBlock]
    · simp [Instr.lookup, run_underlying ht, MapKept.run_getObj_map hb, K.check w es.isEmpty hkey, h1, hz, Result.andThen]
  · have hj : es[j]? = some e0 := by rw [← Array.getElem?_toList]; exact h2
    have hs1 : es.modify j (fun q => { q with key := key }) = es := by
      apply Array.ext'
      rw [Array.toList_modify, modify_eq_set _ _ _ _ h2]
      have : ({ e0 with key := key } : MapEntry) = e0 := by rw [← h3]
      rw [this]
      exact set_self _ _ _ h2
    have hs2 : es.modify j (fun q => { q with key := key, val := e0.val }) = es := by
      apply Array.ext'
      rw [Array.toList_modify, modify_eq_set _ _ _ _ h2]
      have : ({ e0 with key := key, val := e0.val } : MapEntry) = e0 := by rw [← h3]
      rw [this]
      exact set_self _ _ _ h2
    refine ⟨e0.val, e0.born, setBlock w b (.map es clock), ?_, ?_, ?_⟩
    · simp [Instr.mapEntry, run_underlying ht, MapKept.run_getObj_map hb, K.check w false hkey, h1, hj, h3, K.stays w hkey, hs1, MapKept.run_setObj_map _ hb, Result.andThen, setBlock]
    · simp [Instr.mapUpdate, run_underlying ht, MapKept.run_getObj_map hb, K.check w false hkey, h1, hj, h3, K.stays w hkey, hs2, MapKept.run_setObj_map _ hb, Result.andThen, setBlock]
    · simp [Instr.lookup, run_underlying ht, MapKept.run_getObj_map hb, K.check w es.isEmpty hkey, h1, Result.andThen]
end
section
variable {P : Program} {k : TypeId} {κ : Type} [BEq κ] [LawfulBEq κ]
/-- m[x]: the entry is made; what is there then; what a store into it makes -/
theorem MapAt.entryQ {K : KeyKind P k κ} (hlaw : Go.WideMaps.KeyLaw P k) {w : World} {b : Nat} {l : List (κ × Value)} (h : MapAt K w b l) {t e : TypeId} (ht : P.underlying t = some (.map k e)) (hl : l.length < maxLen) {z : Value} (hz : ∀ u : World, (zeroValue e).run P u = .ok z u)
    {x : κ} (hx : K.ok x) :
    ∃ v0 st w1 l1, (Instr.mapEntry t (.map (some b)) (K.val x)).run P w = .ok (.tuple #[v0, goInt st]) w1 ∧ Fr [b] w w1 ∧ MapAt K w1 b l1 ∧ (∀ y, (l1.lookup y).getD z = (l.lookup y).getD z) ∧ ∀ (w2 : World) (v : Value), w2.heap[b]? = w1.heap[b]? →
      ∃ w3, (Instr.entryStore t (.map (some b)) (goInt st) v).run P w2 = .ok () w3 ∧ MapAt K w3 b (putl l x v) ∧ Fr [b] w2 w3 := by
  obtain ⟨v0, st, w1, h1, h2, h3⟩ := h.entryP hlaw ht hl hz hx
  have hm := h
  obtain ⟨D, ⟨es, clock, hb, F, hs, hD⟩, h4⟩ := h
  obtain ⟨v1, st1, w2, e1, e2, e3⟩ := entry_update hlaw ht hz hb F (K.key x hx)
  rw [h1] at e1
  obtain ⟨w', u1, u2, u3⟩ := hm.put ht hl hx v1
  have hw : w' = w2 := by
    rw [u1] at e2
    injection e2
  have hw2 : w1 = w2 := by injection e1
  have hv : v1 = (l.lookup x).getD z := by
    have := hm.look1 ht hz hx
    rw [e3] at this
    injection this
  refine ⟨v0, st, w1, putl l x v1, h1, h2, by rw [hw2, ← hw]; exact u2, fun y => ?_, h3⟩
  rw [putl_look]
  by_cases hy : y = x
  · subst hy
    simp [hv]
  · have hy' : (y == x) = false := by simpa using hy
    rw [hy']
    rfl
end
end Go.Proofs.Ytfmkegblhpnfcaa

namespace Go.Proofs.Ytfmkegblhpnfcaa
set_option maxRecDepth 100000
open Go.RowKit
theorem and_pow (m P : Nat) : (((m &&& 2 ^ P : Nat) : Int) != 0) = m.testBit P := by
  cases h : m.testBit P with
  | false =>
    have e : m &&& 2 ^ P = 0 := by
      apply Nat.eq_of_testBit_eq
      intro i
      rw [Nat.testBit_and, Nat.testBit_two_pow, Nat.zero_testBit]
      by_cases hi : P = i
      · subst hi
        simp [h]
      · simp [hi]
    simp [e]
  | true =>
    have e : (m &&& 2 ^ P).testBit P = true := by rw [Nat.testBit_and, Nat.testBit_two_pow]; simp [h]
    have hne : m &&& 2 ^ P ≠ 0 := by
      intro e2
      rw [e2] at e
      simp at e
    simp only [bne_iff_ne, ne_eq]
    omega
theorem bits_or64 (a b : Nat) (ha : a < 18446744073709551616) (hb : b < 18446744073709551616) : bits .or .u64 (a : Int) (b : Int) = ((a ||| b : Nat) : Int) := by
  have h : bits .or .u64 (a : Int) (b : Int) = IntKind.u64.wrap (((BitVec.ofInt 64 (a : Int)) ||| (BitVec.ofInt 64 (b : Int))).toNat : Int) := rfl
  rw [h, BitVec.ofInt_natCast, BitVec.ofInt_natCast, BitVec.toNat_or, BitVec.toNat_ofNat, BitVec.toNat_ofNat, Nat.mod_eq_of_lt (by omega), Nat.mod_eq_of_lt (by omega)]
  exact wrapU _ (Nat.or_lt_two_pow (n := 64) ha hb)
theorem tcells_set (n : Int) (bv bp : Nat) (T : List Tv) (k r : Int) (P : Nat) (hs : List UInt8) (hP : P < 64) : (tcells n bv bp T).toArray.setIfInBounds (3 + P) (.int .i64 (max (lastV T P) r)) = (tcells n bv bp (⟨k, r, P, hs⟩ :: T)).toArray := by
  have e : 3 + P = P + 1 + 1 + 1 := by omega
  rw [List.setIfInBounds_toArray, e]
  congr 1
  simp only [tcells, List.cons_append, List.nil_append, List.set_cons_succ]
  congr 3
  apply List.ext_getElem
  · simp
  · intro i h1 h2
    have hi : i < 64 := by simpa using h2
    rw [List.getElem_set]
    by_cases hiP : P = i
    · subst hiP
      simp [lastV]
    · simp [lastV, hiP]
theorem valB_add {T : List Tv} {lv : List (Bal × Value)} (hl : ∀ x, lv.lookup x = valB T x) (k r : Int) (P : Nat) (hs : List UInt8) (x : Bal) :
    (putl lv (k, r, hs) (.int .i64 ((cntH T k r hs : Nat) + 1 : Int))).lookup x = valB (⟨k, r, P, hs⟩ :: T) x := by
  obtain ⟨a, b, c⟩ := x
  rw [putl_look]
  unfold valB
  simp only [cntH_cons]
  by_cases h : (a, b, c) = (k, r, hs)
  · obtain ⟨rfl, rfl, rfl⟩ : a = k ∧ b = r ∧ c = hs := by simpa using h
    simp
  · have h' : ((a, b, c) == (k, r, hs)) = false := by simpa using h
    have h2 : ¬ (k = a ∧ r = b ∧ hs = c) := fun q => h (by rw [q.1, q.2.1, q.2.2])
    rw [h', if_neg h2, hl]
    simp [valB]
theorem valP_add {T : List Tv} {lp : List (Pol × Value)} (hl : ∀ x, lp.lookup x = valP T x) (k r : Int) (P : Nat) (hs : List UInt8) (x : Pol) :
    (putl lp (k, r) (turnV (mskV T k r ||| 2 ^ P) (betV (cntH (⟨k, r, P, hs⟩ :: T) k r) (mstV T k r) hs))).lookup x = valP (⟨k, r, P, hs⟩ :: T) x := by
  obtain ⟨a, b⟩ := x
  rw [putl_look]
  unfold valP
  simp only [cntA_cons]
  by_cases h : (a, b) = (k, r)
  · obtain ⟨rfl, rfl⟩ : a = k ∧ b = r := by simpa using h
    simp [mskV, mstV]
  · have h' : ((a, b) == (k, r)) = false := by simpa using h
    have h2 : ¬ (k = a ∧ r = b) := fun q => h (by rw [q.1, q.2])
    rw [h', if_neg h2, hl]
    simp [valP, mskV, mstV, h2]
end Go.Proofs.Ytfmkegblhpnfcaa

namespace Go.Proofs.Ytfmkegblhpnfcaa
open Go.RowKit
set_option maxRecDepth 100000
theorem till_stepB {P : Program} {l : List Oper} {Q : Exit → Act → World → Prop} {md : Region.Mode} {T : Nat} {A B : World → Prop} {fuel : Nat} {L : Array Bool} {a : Act} {w : World} {i : Nat} {o : Oper} (hi : nthOp l i = some o) (hr : Region.ready md l.toArray L = [i]) (hw : Region.wanted o (yielded l.toArray a.tmps) = true)
    (h : ∀ K : Act → World → Prop, Shut (∀ a w, A w → B w → (A w → B w → wpTill P md l.toArray Q T A B fuel (L.setIfInBounds i true) a w) → K a w) → Oper.wp P o a w K Q) : wpTill P md l.toArray Q T A B (fuel + 1) L a w :=
  till_one hi hr hw (h _ (fun a w hA hB hW => ⟨⟨hA, fun _ => hB⟩, hW hA hB⟩))
end Go.Proofs.Ytfmkegblhpnfcaa

namespace Go.Proofs.Ytfmkegblhpnfcaa
set_option maxRecDepth 100000
open Go.RowKit
/-- bad kinds, rounds, replicas -/
def argV (n k r p : Int) : Bool := decide ((k = 1 ∨ k = 2) ∧ 0 ≤ r ∧ r ≤ 1048576 ∧ 0 ≤ p ∧ p < n)
set_option maxHeartbeats 2000000 in
theorem add_arg (w : World) (S : List Nat) (g : Nat) (n : Int) (T : List Tv) (h : Tl w S g n T) (k r p : Int) (hs : List UInt8) (hA : argV n k r p = false) :
    Calls Try.prog 10 #[.pointer (some ⟨g, 0, none⟩), .int .i64 k, .int .i64 r, .int .i64 p, .agg (hs.map by8).toArray] w fun e w' => e = .returned (.bool false) ∧ Fr [] w w' := by
  obtain ⟨wa, hwa⟩ : ∃ wa, wa = w.alloc (Obj.cells (hs.map by8).toArray 30) := ⟨_, rfl⟩
  have hf0 : Fr [] w wa := by rw [hwa]; exact (Fr.refl [] w).alloc _
  obtain ⟨bv, bp, lv, lp, -, -, c0, -, -, -, -, -, -, -, -, -⟩ := (h.keep hf0 (by simp)).cell0
  have HWA := Lib.hid hwa
  have HF0 := Lib.hid hf0
  have HA := Lib.hid hA
  clear h hwa hf0 hA
  go_enter Try.func10, Try.ntmps10
  go_upto_region 1 with (fail)
  change Code.wp _ _ _ _ (w.alloc (Obj.cells (hs.map by8).toArray 30))
  rw [← HWA.out]
  go_wp2_with fail
  refine (isKind_any k wa).mono ?_
  obtain ⟨q, hq⟩ : ∃ q, q = decide (k = 1 ∨ k = 2) := ⟨_, rfl⟩
  rw [← hq]
  have HQ := Lib.hid hq
  clear hq
  rintro e w1 ⟨rfl, rfl⟩
  cases q with
  | false =>
    go_wp2
    go_ret
    exact ⟨rfl, HF0.out⟩
  | true =>
    by_cases h1 : r < 0
    · have hd1 : decide (r < 0) = true := decide_eq_true h1
      go_wp2
      go_ret
      exact ⟨rfl, HF0.out⟩
    · have hd1 : decide (r < 0) = false := decide_eq_false h1
      by_cases h2 : 1048576 < r
      · have hd2 : decide (1048576 < r) = true := decide_eq_true h2
        go_wp2
        go_ret
        exact ⟨rfl, HF0.out⟩
      · have hd2 : decide (1048576 < r) = false := decide_eq_false h2
        by_cases h3 : p < 0
        · have hd3 : decide (p < 0) = true := decide_eq_true h3
          go_wp2
          go_ret
          exact ⟨rfl, HF0.out⟩
        · have hd3 : decide (p < 0) = false := decide_eq_false h3
          have h4 : n ≤ p := by
            have hh := HA.out
            have hk := of_decide_eq_true HQ.out.symm
            unfold argV at hh
            have := of_decide_eq_false hh
            omega
          have hd4 : decide (n ≤ p) = true := decide_eq_true h4
          go_wp2
          go_ret
          exact ⟨rfl, HF0.out⟩
set_option maxHeartbeats 4000000 in
theorem add_go (w : World) (S : List Nat) (g : Nat) (n : Int) (T : List Tv) (h : Tl w S g n T) (hT : TOk n T) (k r p : Int) (hs : List UInt8) (hh : hs.length = 32) (hA : argV n k r p = true) :
    Calls Try.prog 10 #[.pointer (some ⟨g, 0, none⟩), .int .i64 k, .int .i64 r, .int .i64 p, .agg (hs.map by8).toArray] w fun e w' => e = .returned (.bool (mayV n T k r p)) ∧ Tl w' S g n (addV n T k r p hs) ∧ Fr S w w' := by
  obtain ⟨wa, hwa⟩ : ∃ wa, wa = w.alloc (Obj.cells (hs.map by8).toArray 30) := ⟨_, rfl⟩
  have hf0 : Fr [] w wa := by rw [hwa]; exact (Fr.refl [] w).alloc _
  have hb0 : Blk wa w.heap.size 30 (hs.map by8).toArray := by rw [hwa]; exact Blk.new _ _ _
  have hta := h.keep hf0 (by simp)
  obtain ⟨bv, bp, lv, lp, hS, hne, c0, c1, c2, hb, hmv, hmp, hlv, hlp, hnv, hnp⟩ := hta.cell0
  have HWA := Lib.hid hwa
  have HF0 := Lib.hid hf0
  have HB0 := Lib.hid hb0
  have HA := Lib.hid hA
  have HARG := Lib.hid (of_decide_eq_true hA)
  have hq1 : decide (k = 1 ∨ k = 2) = true := decide_eq_true HARG.out.1
  have hd1 : decide (r < 0) = false := decide_eq_false (by have := HARG.out; omega)
  have hd2 : decide (1048576 < r) = false := decide_eq_false (by have := HARG.out; omega)
  have hd3 : decide (p < 0) = false := decide_eq_false (by have := HARG.out; omega)
  have hd4 : decide (n ≤ p) = false := decide_eq_false (by have := HARG.out; omega)
  have HTA := Lib.hid hta
  have HT := Lib.hid hT
  have HS := Lib.hid hS
  have HNE := Lib.hid hne
  have HB := Lib.hid hb
  have HMV := Lib.hid hmv
  have HMP := Lib.hid hmp
  have HLV := Lib.hid hlv
  have HLP := Lib.hid hlp
  have HNV := Lib.hid hnv
  have HNP := Lib.hid hnp
  have HH := Lib.hid hh
  have HLT := Lib.hid h.lt
  clear h hT hh hwa hf0 hb0 hta hS hne hb hmv hmp hlv hlp hnv hnp hA
  obtain ⟨P, rfl⟩ : ∃ P : Nat, p = (P : Int) := ⟨p.toNat, by have := HARG.out; omega⟩
  have HP : Hid (P < 64) := Lib.hid (by have := HARG.out; have := HT.out.n; omega)
  have hp64 : (P : Int) < 64 := by have := HP.out; omega
  have HMAY : Hid (mayV n T k r (P : Int) = !hasV T k r P) := Lib.hid (by
    unfold mayV
    rw [show decide ((k = 1 ∨ k = 2) ∧ 0 ≤ r ∧ r ≤ 1048576 ∧ 0 ≤ (P : Int) ∧ (P : Int) < n) = true from decide_eq_true HARG.out]
    simp)
  have HADD : Hid (addV n T k r (P : Int) hs = if (!hasV T k r P) = true then ⟨k, r, P, hs⟩ :: T else T) := Lib.hid (by
    unfold addV
    rw [HMAY.out]
    simp)
  obtain ⟨q, hq⟩ : ∃ q, q = hasV T k r P := ⟨_, rfl⟩
  rw [← hq] at HMAY HADD
  rw [HMAY.out, HADD.out]
  have HQE := Lib.hid hq
  clear hq HMAY HADD
  obtain ⟨B, hBe⟩ : ∃ B, B = 2 ^ P := ⟨_, rfl⟩
  have HBE := Lib.hid hBe
  have hsh : IntKind.u64.wrap (2 ^ P) = (B : Int) := by
    have h2 : (2 : Nat) ^ P < 18446744073709551616 := Nat.lt_of_lt_of_le (Nat.pow_lt_pow_right (by omega) HP.out) (by decide)
    have e2 : ((2 : Int) ^ P) = ((2 ^ P : Nat) : Int) := by simp
    rw [e2, wrapU (2 ^ P) h2, hBe]
  have HBL : Hid (B < 18446744073709551616) := Lib.hid (by rw [hBe]; exact Nat.lt_of_lt_of_le (Nat.pow_lt_pow_right (by omega) HP.out) (by decide))
  clear hBe
  go_enter Try.func10, Try.ntmps10
  go_upto_region 1 with (fail)
  change Code.wp _ _ _ _ (w.alloc (Obj.cells (hs.map by8).toArray 30))
  rw [← HWA.out]
  go_wp2_with fail
  refine (isKind_any k wa).mono ?_
  rw [hq1]
  rintro e w1 ⟨rfl, rfl⟩
  go_upto_region 3 with (fail)
  have hpo := built_poll k r
  clear hq1 hd1 hd2 hd3 hd4
  refine wp_region_held_drew (S := Fr [] wa) (by kernel_rfl) (Fr.drew (Fr.refl _ wa)) (fun hHeld => ?_)
  refine run_at (i := 0) (v := ?_) rfl (by kernel_rfl) (by rfl) (fun _ _ _ h => h) hHeld (fun w1 hw1 => ?_) ?_
  rotate_left 1
  · skip
    go_simp
    (try (first | with_reducible rfl | (apply And.intro <;> rfl)))
  simp only [Act.put, List.setIfInBounds_toArray, List.set_cons_zero, List.set_cons_succ]
  refine run_at (i := 1) (v := ?_) rfl (by kernel_rfl) (by rfl) (fun _ _ _ h => h) hHeld (fun w1 hw1 => ?_) ?_
  rotate_left 1
  · skip
    go_simp
    (try (first | with_reducible rfl | (apply And.intro <;> rfl)))
  simp only [Act.put, List.setIfInBounds_toArray, List.set_cons_zero, List.set_cons_succ]
  refine build_at (i := 2) rfl (by kernel_rfl) (by rfl) _ _ rfl _ _ (hpo) rfl (fun _ _ _ h => h) hHeld ?_
  simp only [Act.put, List.setIfInBounds_toArray, List.set_cons_zero, List.set_cons_succ]
  refine run_at (i := 3) (v := ?_) rfl (by kernel_rfl) (by rfl) (fun _ _ _ h => h) hHeld (fun w1 hw1 => ?_) ?_
  rotate_left 1
  · skip
    go_simp
    (try (first | with_reducible rfl | (apply And.intro <;> rfl)))
  simp only [Act.put, List.setIfInBounds_toArray, List.set_cons_zero, List.set_cons_succ]
  refine run_at (i := 4) (v := ?_) rfl (by kernel_rfl) (by rfl) (fun _ _ _ h => h) hHeld (fun w1 hw1 => ?_) ?_
  rotate_left 1
  · skip
    go_simp
    (try (first | with_reducible rfl | (apply And.intro <;> rfl)))
  simp only [Act.put, List.setIfInBounds_toArray, List.set_cons_zero, List.set_cons_succ]
  refine step_at (i := 5) rfl (by kernel_rfl) (by rfl) (fun K hK => ?_)
  refine wp_run (v := ?_) (w' := ?_) ?_ ?_
  rotate_left 2
  · go_simp
    (try (first | with_reducible rfl | (apply And.intro <;> rfl)))
  have hb5 : Blk (wa.drew.alloc (Obj.cells #[.int .i64 0, .int .i64 0] 65)) wa.heap.size 65 #[.int .i64 0, .int .i64 0] := Blk.new wa.drew _ _
  refine hK.out _ (wa.drew.alloc (Obj.cells #[.int .i64 0, .int .i64 0] 65)) (hHeld.alloc _) (fun hHeld => ?_)
  clear hK K
  simp only [Act.put, List.setIfInBounds_toArray, List.set_cons_zero, List.set_cons_succ]
  have HG5 : Hid (w.heap.size < wa.heap.size) := Lib.hid HB0.out.lt
  generalize wa.drew.alloc (Obj.cells #[.int .i64 0, .int .i64 0] 65) = wb at *
  obtain ⟨g5, hg5⟩ : ∃ g5, g5 = wa.heap.size := ⟨_, rfl⟩
  rw [← hg5] at hb5 HG5 ⊢
  have HG5E := Lib.hid hg5
  clear hg5
  refine step_at (i := 6) rfl (by kernel_rfl) (by rfl) (fun K hK => ?_)
  refine wp_store_blk 65 _ _ rfl g5 #[.int .i64 k, .int .i64 r] rfl rfl 65 _ hb5 (by kernel_rfl) rfl (by simp [Value.oneCell']) ?_
  intro w3 hb3 hf3
  refine hK.out _ _ (hHeld.go hf3 (by have := HG5E.out; simpa using Nat.le_of_eq this.symm)) (fun hHeld => ?_)
  clear hK K
  simp only [Act.put, List.setIfInBounds_toArray, List.set_cons_zero, List.set_cons_succ]
  refine run_at (i := 7) (v := ?_) rfl (by kernel_rfl) (by rfl) (fun _ _ _ h => h) hHeld (fun w1 hw1 => ?_) ?_
  rotate_left 1
  · skip
    go_simp
    (try (first | with_reducible rfl | (apply And.intro <;> rfl)))
  simp only [Act.put, List.setIfInBounds_toArray, List.set_cons_zero, List.set_cons_succ]
  refine wpAnyH_done (by kernel_rfl) ?_ _
  have HB3 := Lib.hid hb3
  have HF3 := Lib.hid hHeld
  clear hHeld hf3 hb5 hb3
  have HG53 : Hid (g5 < w3.heap.size) := Lib.hid HB3.out.lt
  have HSG : Hid (g < w.heap.size ∧ bv < w.heap.size ∧ bp < w.heap.size) := Lib.hid (by have h := HLT.out; rw [HS.out] at h; exact ⟨h g (by simp), h bv (by simp), h bp (by simp)⟩)
  have c2' := HF3.out.cell c2 (by simp)
  have HLP3 := Lib.hid (fun W (hW : Fr [] w3 W) => Tl.lookP ((HMP.out.keep HF3.out (by simp)).keep hW (by simp)) HLP.out (k := k) (r := r) ⟨⟨by have := HARG.out; omega, by have := HARG.out; omega⟩, ⟨by have := HARG.out; omega, by have := HARG.out; omega⟩⟩)
  have HML := Lib.hid (mstV_len HT.out.gd k r)
  have HMK := Lib.hid (mskV_lt HT.out.gd HT.out.n.2 k r)
  have HMB := Lib.hid (mskV_bit T k r P)
  obtain ⟨m, hm⟩ : ∃ m, m = mskV T k r := ⟨_, rfl⟩
  obtain ⟨M, hM⟩ : ∃ M, M = mstV T k r := ⟨_, rfl⟩
  rw [← hm, ← hM] at HLP3
  rw [← hm] at HMK HMB
  rw [← hM] at HML
  have Hm := Lib.hid hm
  have HM := Lib.hid hM
  clear hm hM
  unfold turnV at HLP3
  obtain ⟨X, hX⟩ : ∃ X : List Value, X = (.int .u64 (m : Int) :: M.map by8 : List Value) := ⟨_, rfl⟩
  have HXL : Hid (X.length = 33) := Lib.hid (by rw [hX]; simp [HML.out])
  have HXA : Hid ((X.toArray.all (·.oneCell')) = true) := Lib.hid (all_oneCell_toArray (by
    rw [hX]
    intro v hv
    rcases List.mem_cons.1 hv with rfl | hv
    · rfl
    · exact by8_one _ v hv))
  have HXS : Hid ((Try.prog.info? 63).map (·.size) = some X.toArray.size) := Lib.hid (by rw [List.size_toArray, HXL.out]; kernel_rfl)
  have HXZ : Hid (zTurn.size = X.toArray.size) := Lib.hid (by rw [show zTurn.size = 33 from rfl, List.size_toArray, HXL.out])
  rw [← hX] at HLP3
  have HX := Lib.hid hX
  clear hX hpo hsh
  go_upto_region 4 with (fail)
  refine wp_region_held_drew (S := Fr [] w3) (by kernel_rfl) (Fr.drew (Fr.refl _ w3)) (fun hHeld => ?_)
  refine run_at (i := 0) (v := ?_) rfl (by kernel_rfl) (by rfl) (fun _ _ _ h => h) hHeld (fun w1 hw1 => ?_) ?_
  rotate_left 1
  · skip
    go_simp
    (try (first | with_reducible rfl | (apply And.intro <;> rfl)))
  simp only [Act.put, List.setIfInBounds_toArray, List.set_cons_zero, List.set_cons_succ]
  refine run_at (i := 1) (v := ?_) rfl (by kernel_rfl) (by rfl) (fun _ _ _ h => h) hHeld (fun w1 hw1 => ?_) ?_
  rotate_left 1
  · skip
    go_simp
    (try (first | with_reducible rfl | (apply And.intro <;> rfl)))
  simp only [Act.put, List.setIfInBounds_toArray, List.set_cons_zero, List.set_cons_succ]
  refine run_at (i := 2) (v := ?_) rfl (by kernel_rfl) (by rfl) (fun _ _ _ h => h) hHeld (fun w1 hw1 => ?_) ?_
  rotate_left 1
  · skip
    go_simp
    (try (first | with_reducible rfl | (apply And.intro <;> rfl)))
  simp only [Act.put, List.setIfInBounds_toArray, List.set_cons_zero, List.set_cons_succ]
  refine run_at (i := 3) (v := ?_) rfl (by kernel_rfl) (by rfl) (fun _ _ _ h => h) hHeld (fun w1 hw1 => ?_) ?_
  rotate_left 1
  · skip
    have hcw0 := hw1.cell (c2') (by first | (simp; done) | exact HNS.out | exact HNW.out | (intro hm; have hlt := HSB.out _ hm; (try dsimp only at hlt); omega))
    go_simp
    (try (first | with_reducible rfl | (apply And.intro <;> rfl)))
  simp only [Act.put, List.setIfInBounds_toArray, List.set_cons_zero, List.set_cons_succ]
  refine row_at (i := 4) rfl (by kernel_rfl) (by rfl) _ _ rfl _ _ rfl _ (fun w1 hw1 => hw1.range (HB3.out.range) (by first | (simp; done) | exact HNS.out | exact HNW.out | (intro hm; have hlt := HSB.out _ hm; (try dsimp only at hlt); omega))) (row_poll) (fun _ _ _ h => h) hHeld ?_
  simp only [Act.put, List.setIfInBounds_toArray, List.set_cons_zero, List.set_cons_succ]
  refine run_at (i := 5) (v := ?_) rfl (by kernel_rfl) (by rfl) (fun _ _ _ h => h) hHeld (fun w1 hw1 => ?_) ?_
  rotate_left 1
  · skip
    have hcw0 := HLP3.out w1 hw1
    go_simp
    (try (first | with_reducible rfl | (apply And.intro <;> rfl)))
  simp only [Act.put, List.setIfInBounds_toArray, List.set_cons_zero, List.set_cons_succ]
  refine step_at (i := 6) rfl (by kernel_rfl) (by rfl) (fun K hK => ?_)
  refine wp_run (v := ?_) (w' := ?_) ?_ ?_
  rotate_left 2
  · go_simp
    (try (first | with_reducible rfl | (apply And.intro <;> rfl)))
  have hb6 : Blk (w3.drew.alloc (Obj.cells zTurn 63)) w3.heap.size 63 zTurn := Blk.new w3.drew _ _
  refine hK.out _ (w3.drew.alloc (Obj.cells zTurn 63)) (hHeld.alloc _) (fun hHeld => ?_)
  clear hK K
  simp only [Act.put, List.setIfInBounds_toArray, List.set_cons_zero, List.set_cons_succ]
  generalize w3.drew.alloc (Obj.cells zTurn 63) = wc at *
  obtain ⟨g6, hg6⟩ : ∃ g6, g6 = w3.heap.size := ⟨_, rfl⟩
  rw [← hg6] at hb6 HG53 ⊢
  have HG6E := Lib.hid hg6
  clear hg6
  refine step_at (i := 7) rfl (by kernel_rfl) (by rfl) (fun K hK => ?_)
  refine wp_store_blk 63 _ _ rfl g6 X.toArray rfl rfl 63 _ hb6 HXS.out HXZ.out HXA.out ?_
  intro w4 hb4 hf4
  refine hK.out _ _ (hHeld.go hf4 (by have := HG6E.out; simpa using Nat.le_of_eq this.symm)) (fun hHeld => ?_)
  clear hK K
  simp only [Act.put, List.setIfInBounds_toArray, List.set_cons_zero, List.set_cons_succ]
  refine wpAnyH_done (by kernel_rfl) ?_ _
  have HB4 := Lib.hid hb4
  have HF4 := Lib.hid (HF3.out.and hHeld (by simp))
  have HB34 := Lib.hid (HB3.out.keep hHeld (by simp))
  clear hHeld hf4 hb6 hb4 c2'
  have x0 : w4.cell? ⟨g6, 0, none⟩ = some (.int .u64 (m : Int)) := by rw [HB4.out.cell 0, HX.out]; rfl
  have hand : bits .and .u64 (m : Int) (B : Int) = ((m &&& B : Nat) : Int) := bits_and64 m B HMK.out HBL.out
  have HANE : Hid ((((m &&& B : Nat) : Int) != 0) = hasV T k r P) := Lib.hid (by rw [HBE.out, and_pow, HMB.out])
  rw [← HQE.out] at HANE
  clear HQE
  cases q with
  | true =>
    have hne := HANE.out
    go_wp2
    go_ret
    exact ⟨rfl, HTA.out.keep HF4.out (by simp), (HF0.out.and HF4.out (by simp)).mono (by simp)⟩
  | false =>
  have hne := HANE.out
  have HSA := HTA.out.cell0
  have HGV : Hid (g ≠ bv ∧ g ≠ bp) := Lib.hid ⟨HMV.out.ne HB.out, HMP.out.ne HB.out⟩
  have HMV4 := Lib.hid (HMV.out.keep HF4.out (by simp))
  have HMP4 := Lib.hid (HMP.out.keep HF4.out (by simp))
  have c14 := HF4.out.cell c1 (by simp)
  have HB04 := Lib.hid (HB0.out.keep HF4.out (by simp))
  have HB44 := Lib.hid (HB.out.keep HF4.out (by simp))
  have HOK : Hid (bok (k, r, hs)) := Lib.hid ⟨⟨by have := HARG.out; simp only; omega, by have := HARG.out; simp only; omega⟩, ⟨by have := HARG.out; simp only; omega, by have := HARG.out; simp only; omega⟩, HH.out⟩
  have HOF := Lib.hid (fun W => of_any2 k r hs HH.out W)
  have HZI : Hid (∀ u : World, (zeroValue 3).run Try.prog u = .ok (.int .i64 0) u) := Lib.hid zeroI64
  have HCQ : Hid (cntH T k r hs < 1048576) := Lib.hid (Nat.lt_of_le_of_lt (cntH_le T k r hs) HT.out.len)
  obtain ⟨cq, hcq⟩ : ∃ cq, cq = cntH T k r hs := ⟨_, rfl⟩
  have hcq64 : (cq : Int) < 1048576 := by have := HCQ.out; omega
  obtain ⟨CB, hCB⟩ : ∃ CB : Array Value, CB = (.int .i64 k :: .int .i64 r :: hs.map by8 : List Value).toArray := ⟨_, rfl⟩
  have HLB : Hid (∀ (W : World) (l' : List (Bal × Value)), MapAt balKey W bv l' → (∀ y, (l'.lookup y).getD (.int .i64 0) = (lv.lookup y).getD (.int .i64 0)) → (Instr.lookup 55 (.map (some bv)) (.agg CB) false).run Try.prog W = .ok (.int .i64 cq) W) := Lib.hid (by
    intro W l' h1 h2
    have h3 := h1.look1 Try.underlying55 zeroI64 HOK.out
    rw [h2, HLV.out, valB_get] at h3
    rw [hCB, hcq]
    exact h3)
  have HKV : Hid (balKey.val (k, r, hs) = .agg CB) := Lib.hid (by rw [hCB]; rfl)
  have HCQE := Lib.hid hcq
  rw [← hCB] at HOF
  clear hcq hCB HSA
  go_upto_region 7 with (fail)
  clear hand x0 hne
  refine wp_region_till 11 (Fr [bv] w4) (fun W => Fr [bv] w4 W ∧ ∃ l', MapAt balKey W bv l' ∧ ∀ y, (l'.lookup y).getD (.int .i64 0) = (lv.lookup y).getD (.int .i64 0)) (by kernel_rfl) (Fr.drew (Fr.refl _ w4)) ⟨Fr.drew (Fr.refl _ w4), lv, HMV4.out.drew, fun _ => rfl⟩ (fun hA hB => ?_)
  refine till_run (i := 0) (v := ?_) rfl (by kernel_rfl) (by rfl) (fun _ _ _ h => h) hA hB (fun w1 hw1 => ?_) ?_
  rotate_left 1
  · skip
    go_simp
    (try (first | with_reducible rfl | (apply And.intro <;> rfl)))
  simp only [Act.put, List.setIfInBounds_toArray, List.set_cons_zero, List.set_cons_succ]
  refine till_run (i := 1) (v := ?_) rfl (by kernel_rfl) (by rfl) (fun _ _ _ h => h) hA hB (fun w1 hw1 => ?_) ?_
  rotate_left 1
  · skip
    go_simp
    (try (first | with_reducible rfl | (apply And.intro <;> rfl)))
  simp only [Act.put, List.setIfInBounds_toArray, List.set_cons_zero, List.set_cons_succ]
  refine till_run (i := 2) (v := ?_) rfl (by kernel_rfl) (by rfl) (fun _ _ _ h => h) hA hB (fun w1 hw1 => ?_) ?_
  rotate_left 1
  · skip
    go_simp
    (try (first | with_reducible rfl | (apply And.intro <;> rfl)))
  simp only [Act.put, List.setIfInBounds_toArray, List.set_cons_zero, List.set_cons_succ]
  refine till_run (i := 3) (v := ?_) rfl (by kernel_rfl) (by rfl) (fun _ _ _ h => h) hA hB (fun w1 hw1 => ?_) ?_
  rotate_left 1
  · have hcw0 := hw1.1.cell c14 (by simpa using HGV.out.1)
    go_simp
    (try (first | with_reducible rfl | (apply And.intro <;> rfl)))
  simp only [Act.put, List.setIfInBounds_toArray, List.set_cons_zero, List.set_cons_succ]
  refine till_row (i := 4) rfl (by kernel_rfl) (by rfl) _ _ rfl _ _ rfl _ (fun w1 hw1 => hw1.1.range (HB34.out.range) (by have := HSG.out; have := HG5.out; have := HG53.out; simp; omega)) (row_poll) (fun _ _ _ h => h) hA hB ?_
  simp only [Act.put, List.setIfInBounds_toArray, List.set_cons_zero, List.set_cons_succ]
  refine till_row (i := 5) rfl (by kernel_rfl) (by rfl) _ _ rfl _ _ rfl _ (fun w1 hw1 => hw1.1.range (HB04.out.range) (by have := HSG.out; have := HG5.out; have := HG53.out; simp; omega)) (row_hash.of (by rw [List.length_map]; exact HH.out)) (fun _ _ _ h => h) hA hB ?_
  simp only [Act.put, List.setIfInBounds_toArray, List.set_cons_zero, List.set_cons_succ]
  refine till_call (i := 6) (f := ?_) (args := ?_) rfl (by kernel_rfl) (by rfl) ?_ ?_
  rotate_left 2
  · go_simp
    (try (first | with_reducible rfl | (apply And.intro <;> rfl)))
  refine (HOF.out _).mono ?_
  rintro e w5 ⟨rfl, hf5⟩
  have hA5 : Fr [] w4 w5 := (Fr.drew (Fr.refl _ w4)).and hf5 (by simp)
  have hm5 : MapAt balKey w5 bv lv := HMV4.out.keep hA5 (by simp)
  have hA := hA5.mono (T := [bv]) (by simp)
  refine ⟨_, rfl, ⟨hA, hA, lv, hm5, fun _ => rfl⟩, fun hB => ?_⟩
  simp only [Act.put, List.setIfInBounds_toArray, List.set_cons_zero, List.set_cons_succ]
  refine till_run (i := 7) (v := ?_) rfl (by kernel_rfl) (by rfl) (fun _ _ _ h => h) hA hB (fun w1 hw1 => ?_) ?_
  rotate_left 1
  · have hcw0 := HLB.out w1 _ hw1.2.choose_spec.1 hw1.2.choose_spec.2
    go_simp
    (try (first | with_reducible rfl | (apply And.intro <;> rfl)))
  simp only [Act.put, List.setIfInBounds_toArray, List.set_cons_zero, List.set_cons_succ]
  have hwr : IntKind.i64.wrap ((cq : Int) + 1) = (cq : Int) + 1 := by
    rw [IntKind.wrap_i64]
    omega
  refine till_run (i := 8) (v := ?_) rfl (by kernel_rfl) (by rfl) (fun _ _ _ h => h) hA hB (fun w1 hw1 => ?_) ?_
  rotate_left 1
  · skip
    go_simp
    (try (first | with_reducible rfl | (apply And.intro <;> rfl)))
  simp only [Act.put, List.setIfInBounds_toArray, List.set_cons_zero, List.set_cons_succ]
  clear hwr
  obtain ⟨v0, st, w6, l1, hent, hf6, hm6, hl6, hst⟩ := MapAt.entryQ keyLawBal hm5 Try.underlying55 (by have := HNV.out; have := HT.out.len; unfold maxLen; omega) HZI.out HOK.out
  rw [HKV.out] at hent
  obtain ⟨w7, hsto, hm7, hf7⟩ := hst w6 (.int .i64 ((cq : Int) + 1)) rfl
  have hent' : (Instr.mapEntry 55 (.map (some bv)) (.agg CB)).run Try.prog w5 = .ok (.tuple #[v0, goInt st]) w6 := hent
  have hsto' : (Instr.entryStore 55 (.map (some bv)) (.int .i64 st) (.int .i64 ((cq : Int) + 1))).run Try.prog w6 = .ok () w7 := hsto
  have HENT := Lib.hid hent'
  have HSTO := Lib.hid hsto'
  have HM7 := Lib.hid hm7
  have HF6 : Hid (Fr [bv] w4 w6) := Lib.hid (hA.trans hf6 (fun x hx _ => hx))
  have HF7 : Hid (Fr [bv] w4 w7) := Lib.hid (HF6.out.trans hf7 (fun x hx _ => hx))
  have HM6 := Lib.hid hm6
  have HL6 := Lib.hid hl6
  clear hent hst hent' hsto hsto' hm7 hf6 hf7 hm6 hl6 hm5 hA5 hf5
  refine till_stepB (i := 9) rfl (by kernel_rfl) (by rfl) (fun K hK => ?_)
  refine wp_run (v := ?_) (w' := ?_) ?_ ?_
  rotate_left 2
  · have hrun := HENT.out
    go_simp
    (try (first | with_reducible rfl | (apply And.intro <;> rfl)))
  refine hK.out _ w6 HF6.out ⟨HF6.out, l1, HM6.out, HL6.out⟩ (fun hA hB => ?_)
  clear hK K
  simp only [Act.put, List.setIfInBounds_toArray, List.set_cons_zero, List.set_cons_succ]
  refine till_run (i := 10) (v := ?_) rfl (by kernel_rfl) (by rfl) (fun _ _ _ h => h) hA hB (fun w1 hw1 => ?_) ?_
  rotate_left 1
  · skip
    go_simp
    (try (first | with_reducible rfl | (apply And.intro <;> rfl)))
  simp only [Act.put, List.setIfInBounds_toArray, List.set_cons_zero, List.set_cons_succ]
  refine till_step (i := 11) rfl (by kernel_rfl) (by kernel_rfl) (by rfl) (fun K hK => ?_)
  refine wp_skip1 (w' := ?_) ?_ ?_
  rotate_left 1
  · have hrun := HSTO.out
    go_simp
    (try (first | with_reducible rfl | (apply And.intro <;> rfl)))
  refine hK.out _ w7 HF7.out (fun hA => ?_)
  clear hK K
  simp only [Act.put, List.setIfInBounds_toArray, List.set_cons_zero, List.set_cons_succ]
  refine till_done (by kernel_rfl) ?_ _
  clear hA hB
  obtain ⟨T', hT'⟩ : ∃ T', T' = (⟨k, r, P, hs⟩ :: T : List Tv) := ⟨_, rfl⟩
  have HLV7 : Hid (∀ x, (putl lv (k, r, hs) (.int .i64 ((cq : Int) + 1))).lookup x = valB T' x) := Lib.hid (fun x => by rw [hT', HCQE.out]; exact valB_add HLV.out k r P hs x)
  have HNV7 : Hid ((putl lv (k, r, hs) (.int .i64 ((cq : Int) + 1))).length ≤ T'.length) := Lib.hid (by have := putl_len lv (k, r, hs) (.int .i64 ((cq : Int) + 1)); have := HNV.out; rw [hT', List.length_cons]; omega)
  obtain ⟨Z, hZ⟩ : ∃ Z, Z = betV (cntH T' k r) M hs := ⟨_, rfl⟩
  have HZE := Lib.hid hZ
  have HTE := Lib.hid hT'
  have HZL : Hid (Z.length = 32) := Lib.hid (by rw [hZ]; unfold betV; split; exact HML.out; exact HH.out)
  have HT7 : Hid (T'.length < 1048577) := Lib.hid (by rw [hT', List.length_cons]; have := HT.out.len; omega)
  clear hZ hT'
  generalize putl lv (k, r, hs) (.int .i64 ((cq : Int) + 1)) = lv7 at *
  have c17 := HF7.out.cell c14 (by simpa using HGV.out.1)
  have c27 := HF7.out.cell (HF4.out.cell c2 (by simp)) (by simpa using HGV.out.1)
  have HN5 : Hid (¬ g5 = bv ∧ ¬ g6 = bv ∧ ¬ w.heap.size = bv ∧ ¬ g5 = bp ∧ ¬ g6 = bp ∧ ¬ w.heap.size = bp) := Lib.hid (by have := HSG.out; have := HG5.out; have := HG53.out; omega)
  have HB37 := Lib.hid (HB34.out.keep HF7.out (by simpa using HN5.out.1))
  have HB47 := Lib.hid (HB4.out.keep HF7.out (by simpa using HN5.out.2.1))
  have HB07 := Lib.hid (HB04.out.keep HF7.out (by simpa using HN5.out.2.2.1))
  have HBG7 := Lib.hid (HB44.out.keep HF7.out (by simpa using HGV.out.1))
  have HMP7 := Lib.hid (HMP4.out.keep HF7.out (by simpa using fun e => HNE.out e.symm))
  have x07 : w7.cell? ⟨g6, 0, none⟩ = some (.int .u64 (m : Int)) := by rw [HB47.out.cell 0, HX.out]; rfl
  have HRM : Hid (w7.rangeAt g6 1 (M.map by8)) := Lib.hid (fun j v hv => by
    have h1 := HB47.out.cell (1 + j)
    rw [HX.out] at h1
    rw [h1, List.getElem?_toArray, show 1 + j = j + 1 by omega, List.getElem?_cons_succ]
    exact hv)
  have hor := bits_or64 m B HMK.out HBL.out
  have HBTN := Lib.hid (built_turn (m ||| B) Z HZL.out)
  have HBET := Lib.hid (fun W (hW : Fr [] w7 W) => better_any W g bv lv7 T' (hW.cell c17 (by simp)) (HM7.out.keep hW (by simp)) HLV7.out k r HOK.out.1 HOK.out.2.1 M hs HML.out HH.out HT7.out)
  have HN7 : Hid (w.heap.size < w7.heap.size) := Lib.hid HB07.out.lt
  have HNSx : Hid (¬ g ∈ [bp]) := Lib.hid (by simpa using HGV.out.2)
  have HNS5 : Hid (¬ g5 ∈ [bp]) := Lib.hid (by simpa using HN5.out.2.2.2.1)
  have HNS6 : Hid (¬ g6 ∈ [bp]) := Lib.hid (by simpa using HN5.out.2.2.2.2.1)
  have HNS0 : Hid (¬ w.heap.size ∈ [bp]) := Lib.hid (by simpa using HN5.out.2.2.2.2.2)
  clear c14 c1 c2
  go_upto_region 8 with (fail)
  refine wp_region_held_drew (S := Fr [bp] w7) (by kernel_rfl) (Fr.drew (Fr.refl _ w7)) (fun hHeld => ?_)
  refine run_at (i := 0) (v := ?_) rfl (by kernel_rfl) (by rfl) (fun _ _ _ h => h) hHeld (fun w1 hw1 => ?_) ?_
  rotate_left 1
  · skip
    go_simp
    (try (first | with_reducible rfl | (apply And.intro <;> rfl)))
  simp only [Act.put, List.setIfInBounds_toArray, List.set_cons_zero, List.set_cons_succ]
  refine run_at (i := 1) (v := ?_) rfl (by kernel_rfl) (by rfl) (fun _ _ _ h => h) hHeld (fun w1 hw1 => ?_) ?_
  rotate_left 1
  · skip
    go_simp
    (try (first | with_reducible rfl | (apply And.intro <;> rfl)))
  simp only [Act.put, List.setIfInBounds_toArray, List.set_cons_zero, List.set_cons_succ]
  refine run_at (i := 2) (v := ?_) rfl (by kernel_rfl) (by rfl) (fun _ _ _ h => h) hHeld (fun w1 hw1 => ?_) ?_
  rotate_left 1
  · skip
    go_simp
    (try (first | with_reducible rfl | (apply And.intro <;> rfl)))
  simp only [Act.put, List.setIfInBounds_toArray, List.set_cons_zero, List.set_cons_succ]
  refine run_at (i := 3) (v := ?_) rfl (by kernel_rfl) (by rfl) (fun _ _ _ h => h) hHeld (fun w1 hw1 => ?_) ?_
  rotate_left 1
  · skip
    have hcw0 := hw1.cell c27 HNSx.out
    go_simp
    (try (first | with_reducible rfl | (apply And.intro <;> rfl)))
  simp only [Act.put, List.setIfInBounds_toArray, List.set_cons_zero, List.set_cons_succ]
  refine row_at (i := 4) rfl (by kernel_rfl) (by rfl) _ _ rfl _ _ rfl _ (fun w1 hw1 => hw1.range HB37.out.range HNS5.out) (row_poll) (fun _ _ _ h => h) hHeld ?_
  simp only [Act.put, List.setIfInBounds_toArray, List.set_cons_zero, List.set_cons_succ]
  refine run_at (i := 5) (v := ?_) rfl (by kernel_rfl) (by rfl) (fun _ _ _ h => h) hHeld (fun w1 hw1 => ?_) ?_
  rotate_left 1
  · skip
    go_simp
    (try (first | with_reducible rfl | (apply And.intro <;> rfl)))
  simp only [Act.put, List.setIfInBounds_toArray, List.set_cons_zero, List.set_cons_succ]
  refine run_at (i := 6) (v := ?_) rfl (by kernel_rfl) (by rfl) (fun _ _ _ h => h) hHeld (fun w1 hw1 => ?_) ?_
  rotate_left 1
  · skip
    have hcw0 := hw1.cell x07 HNS6.out
    go_simp
    (try (first | with_reducible rfl | (apply And.intro <;> rfl)))
  simp only [Act.put, List.setIfInBounds_toArray, List.set_cons_zero, List.set_cons_succ]
  refine run_at (i := 7) (v := ?_) rfl (by kernel_rfl) (by rfl) (fun _ _ _ h => h) hHeld (fun w1 hw1 => ?_) ?_
  rotate_left 1
  · skip
    go_simp
    (try (first | with_reducible rfl | (apply And.intro <;> rfl)))
  simp only [Act.put, List.setIfInBounds_toArray, List.set_cons_zero, List.set_cons_succ]
  refine run_at (i := 8) (v := ?_) rfl (by kernel_rfl) (by rfl) (fun _ _ _ h => h) hHeld (fun w1 hw1 => ?_) ?_
  rotate_left 1
  · skip
    go_simp
    (try (first | with_reducible rfl | (apply And.intro <;> rfl)))
  simp only [Act.put, List.setIfInBounds_toArray, List.set_cons_zero, List.set_cons_succ]
  refine run_at (i := 9) (v := ?_) rfl (by kernel_rfl) (by rfl) (fun _ _ _ h => h) hHeld (fun w1 hw1 => ?_) ?_
  rotate_left 1
  · skip
    go_simp
    (try (first | with_reducible rfl | (apply And.intro <;> rfl)))
  simp only [Act.put, List.setIfInBounds_toArray, List.set_cons_zero, List.set_cons_succ]
  refine row_at (i := 10) rfl (by kernel_rfl) (by rfl) _ _ rfl _ _ rfl _ (fun w1 hw1 => hw1.range HB37.out.range HNS5.out) (row_poll) (fun _ _ _ h => h) hHeld ?_
  simp only [Act.put, List.setIfInBounds_toArray, List.set_cons_zero, List.set_cons_succ]
  refine run_at (i := 11) (v := ?_) rfl (by kernel_rfl) (by rfl) (fun _ _ _ h => h) hHeld (fun w1 hw1 => ?_) ?_
  rotate_left 1
  · skip
    go_simp
    (try (first | with_reducible rfl | (apply And.intro <;> rfl)))
  simp only [Act.put, List.setIfInBounds_toArray, List.set_cons_zero, List.set_cons_succ]
  refine row_at (i := 12) rfl (by kernel_rfl) (by rfl) _ _ rfl _ _ rfl _ (fun w1 hw1 => hw1.range HRM.out HNS6.out) (row_hash.of (by rw [List.length_map]; exact HML.out)) (fun _ _ _ h => h) hHeld ?_
  simp only [Act.put, List.setIfInBounds_toArray, List.set_cons_zero, List.set_cons_succ]
  refine row_at (i := 13) rfl (by kernel_rfl) (by rfl) _ _ rfl _ _ rfl _ (fun w1 hw1 => hw1.range HB07.out.range HNS0.out) (row_hash.of (by rw [List.length_map]; exact HH.out)) (fun _ _ _ h => h) hHeld ?_
  simp only [Act.put, List.setIfInBounds_toArray, List.set_cons_zero, List.set_cons_succ]
  refine call_at (i := 14) (f := ?_) (args := ?_) rfl (by kernel_rfl) (by rfl) ?_ ?_
  rotate_left 2
  · go_simp
    (try (first | with_reducible rfl | (apply And.intro <;> rfl)))
  refine (HBET.out _ (Fr.drew (Fr.refl _ w7))).mono ?_
  rw [← HZE.out]
  rintro e w8 ⟨rfl, hf8⟩
  have HF8 : Hid (Fr [] w7 w8) := Lib.hid ((Fr.drew (Fr.refl _ w7)).and hf8 (by simp))
  refine ⟨_, rfl, HF8.out.mono (by simp), fun hHeld => ?_⟩
  clear hf8
  simp only [Act.put, List.setIfInBounds_toArray, List.set_cons_zero, List.set_cons_succ]
  refine build_at (i := 15) rfl (by kernel_rfl) (by rfl) _ _ rfl _ _ (HBTN.out) rfl (fun _ _ _ h => h) hHeld ?_
  simp only [Act.put, List.setIfInBounds_toArray, List.set_cons_zero, List.set_cons_succ]
  obtain ⟨w9, hup, hm9, hf9⟩ := MapAt.put (HMP7.out.keep HF8.out (by simp)) Try.underlying56 (by have := HNP.out; have := HT.out.len; unfold maxLen; omega) (x := (k, r)) ⟨HOK.out.1, HOK.out.2.1⟩ (turnV (m ||| B) Z)
  have hup' : (Instr.mapUpdate 56 (.map (some bp)) (.agg #[.int .i64 k, .int .i64 r]) (.agg (.int .u64 ((m ||| B : Nat) : Int) :: Z.map by8).toArray)).run Try.prog w8 = .ok () w9 := hup
  have HUP := Lib.hid hup'
  have HM9 := Lib.hid hm9
  have HF9 : Hid (Fr [bp] w7 w9) := Lib.hid ((HF8.out.mono (T := [bp]) (by simp)).trans hf9 (fun x hx _ => hx))
  clear hup hup' hm9 hf9
  refine step_at (i := 16) rfl (by kernel_rfl) (by rfl) (fun K hK => ?_)
  refine wp_skip1 (w' := ?_) ?_ ?_
  rotate_left 1
  · have hrun := HUP.out
    go_simp
    (try (first | with_reducible rfl | (apply And.intro <;> rfl)))
  refine hK.out _ w9 HF9.out (fun hHeld => ?_)
  clear hK K
  simp only [Act.put, List.setIfInBounds_toArray, List.set_cons_zero, List.set_cons_succ]
  refine wpAnyH_done (by kernel_rfl) ?_ _
  clear hHeld hor x07 c17 c27
  have HM79 := Lib.hid (HM7.out.keep HF9.out (by simpa using HNE.out))
  have HBG9 := Lib.hid (HBG7.out.keep HF9.out HNSx.out)
  have cp9 : w9.cell? ⟨g, 3 + P, none⟩ = some (.int .i64 (lastV T P)) := by
    rw [HBG9.out.cell (3 + P), List.getElem?_toArray]
    exact tcells_at n bv bp T P HP.out
  have HLG := Lib.hid (lastV_ge HT.out.gd P)
  go_upto_region 9 with (fail)
  refine wp_region_held_drew (S := Fr [g] w9) (by kernel_rfl) (Fr.drew (Fr.refl _ w9)) (fun hHeld => ?_)
  have cp9d : w9.drew.cell? ⟨g, 3 + P, none⟩ = some (.int .i64 (lastV T P)) := cp9
  refine run_at (i := 0) (v := ?_) rfl (by kernel_rfl) (by rfl) (fun _ _ _ h => h) hHeld (fun w1 hw1 => ?_) ?_
  rotate_left 1
  · skip
    go_simp
    (try (first | with_reducible rfl | (apply And.intro <;> rfl)))
  simp only [Act.put, List.setIfInBounds_toArray, List.set_cons_zero, List.set_cons_succ]
  refine run_at (i := 1) (v := ?_) rfl (by kernel_rfl) (by rfl) (fun _ _ _ h => h) hHeld (fun w1 hw1 => ?_) ?_
  rotate_left 1
  · skip
    go_simp
    (try (first | with_reducible rfl | (apply And.intro <;> rfl)))
  simp only [Act.put, List.setIfInBounds_toArray, List.set_cons_zero, List.set_cons_succ]
  refine run_at (i := 2) (v := ?_) rfl (by kernel_rfl) (by rfl) (fun _ _ _ h => h) hHeld (fun w1 hw1 => ?_) ?_
  rotate_left 1
  · skip
    go_simp
    (try (first | with_reducible rfl | (apply And.intro <;> rfl)))
  simp only [Act.put, List.setIfInBounds_toArray, List.set_cons_zero, List.set_cons_succ]
  refine run_at (i := 3) (v := ?_) rfl (by kernel_rfl) (by rfl) (fun _ _ _ h => h) hHeld (fun w1 hw1 => ?_) ?_
  rotate_left 1
  · skip
    go_simp
    (try (first | with_reducible rfl | (apply And.intro <;> rfl)))
  simp only [Act.put, List.setIfInBounds_toArray, List.set_cons_zero, List.set_cons_succ]
  refine run_at (i := 4) (v := ?_) rfl (by kernel_rfl) (by rfl) (fun _ _ _ h => h) hHeld (fun w1 hw1 => ?_) ?_
  rotate_left 1
  · skip
    go_simp
    (try (first | with_reducible rfl | (apply And.intro <;> rfl)))
  simp only [Act.put, List.setIfInBounds_toArray, List.set_cons_zero, List.set_cons_succ]
  refine run_at (i := 5) (v := ?_) rfl (by kernel_rfl) (by rfl) (fun _ _ _ h => h) hHeld (fun w1 hw1 => ?_) ?_
  rotate_left 1
  · skip
    go_simp
    (try (first | with_reducible rfl | (apply And.intro <;> rfl)))
  simp only [Act.put, List.setIfInBounds_toArray, List.set_cons_zero, List.set_cons_succ]
  refine run_at (i := 6) (v := ?_) rfl (by kernel_rfl) (by rfl) (fun _ _ _ h => h) hHeld (fun w1 hw1 => ?_) ?_
  rotate_left 1
  · skip
    go_simp
    (try (first | with_reducible rfl | (apply And.intro <;> rfl)))
  simp only [Act.put, List.setIfInBounds_toArray, List.set_cons_zero, List.set_cons_succ]
  refine run_at (i := 8) (v := ?_) rfl (by kernel_rfl) (by rfl) (fun _ _ _ h => h) hHeld (fun w1 hw1 => ?_) ?_
  rotate_left 1
  · skip
    go_simp
    (try (first | with_reducible rfl | (apply And.intro <;> rfl)))
  simp only [Act.put, List.setIfInBounds_toArray, List.set_cons_zero, List.set_cons_succ]
  refine run_at (i := 10) (v := ?_) rfl (by kernel_rfl) (by rfl) (fun _ _ _ h => h) hHeld (fun w1 hw1 => ?_) ?_
  rotate_left 1
  · skip
    go_simp
    (try (first | with_reducible rfl | (apply And.intro <;> rfl)))
  simp only [Act.put, List.setIfInBounds_toArray, List.set_cons_zero, List.set_cons_succ]
  refine run_at (i := 11) (v := ?_) rfl (by kernel_rfl) (by rfl) (fun _ _ _ h => h) hHeld (fun w1 hw1 => ?_) ?_
  rotate_left 1
  · skip
    go_simp
    (try (first | with_reducible rfl | (apply And.intro <;> rfl)))
  simp only [Act.put, List.setIfInBounds_toArray, List.set_cons_zero, List.set_cons_succ]
  refine step_at (i := 7) rfl (by kernel_rfl) (by rfl) (fun K hK => ?_)
  refine wp_run (v := ?_) (w' := ?_) ?_ ?_
  rotate_left 2
  · go_simp
    (try (first | with_reducible rfl | (apply And.intro <;> rfl)))
  refine hK.out _ w9.drew hHeld (fun hHeld => ?_)
  clear hK K
  simp only [Act.put, List.setIfInBounds_toArray, List.set_cons_zero, List.set_cons_succ]
  have HBGd : Hid (Blk w9.drew g 59 (tcells n bv bp T).toArray) := Lib.hid HBG9.out.drew
  have HMVd : Hid (MapAt balKey w9.drew bv lv7) := Lib.hid HM79.out.drew
  have HMPd := Lib.hid HM9.out.drew
  generalize w9.drew = wd at *
  refine run_at (i := 9) (v := ?_) rfl (by kernel_rfl) (by rfl) (fun _ _ _ h => h) hHeld (fun w1 hw1 => ?_) ?_
  rotate_left 1
  · skip
    go_simp
    (try (first | with_reducible rfl | (apply And.intro <;> rfl)))
  simp only [Act.put, List.setIfInBounds_toArray, List.set_cons_zero, List.set_cons_succ]
  refine run_at (i := 12) (v := ?_) rfl (by kernel_rfl) (by rfl) (fun _ _ _ h => h) hHeld (fun w1 hw1 => ?_) ?_
  rotate_left 1
  · skip
    go_simp
    (try (first | with_reducible rfl | (apply And.intro <;> rfl)))
  simp only [Act.put, List.setIfInBounds_toArray, List.set_cons_zero, List.set_cons_succ]
  obtain ⟨mx, hmx⟩ : ∃ mx, mx = max (lastV T P) r := ⟨_, rfl⟩
  rw [← hmx]
  have HMX := Lib.hid hmx
  clear hmx cp9d
  refine step_at (i := 13) rfl (by kernel_rfl) (by rfl) (fun K hK => ?_)
  refine wp_store_cell1 3 _ _ rfl g (3 + P) (.int .i64 mx) rfl rfl rfl 59 _ HBGd.out (by rw [List.size_toArray, tcells_len]; have := HP.out; omega) (by kernel_rfl) ?_
  have hb10 := HBGd.out.set (3 + P) (.int .i64 mx)
  rw [HMX.out, tcells_set n bv bp T k r P hs HP.out, ← HTE.out, ← HMX.out] at hb10
  have hf10 : Fr [g] wd (wd.setCell ⟨g, 3 + P, none⟩ (.int .i64 mx)) := (Fr.refl [g] wd).setCell _ (by simp) _
  have htl : Tl (wd.setCell ⟨g, 3 + P, none⟩ (.int .i64 mx)) S g n T' := ⟨bv, bp, lv7, _, HS.out, HNE.out, hb10, HMVd.out.keep hf10 (by simpa using fun e => HGV.out.1 e.symm), HMPd.out.keep hf10 (by simpa using fun e => HGV.out.2 e.symm), HLV7.out,
    fun x => by
      have h := valP_add HLP.out k r P hs x
      rw [← HTE.out, ← Hm.out, ← HM.out, ← HBE.out, ← HZE.out] at h
      exact h, HNV7.out, by have h1 := putl_len lp (k, r) (turnV (m ||| B) Z); have h2 := HNP.out; rw [HTE.out, List.length_cons]; omega⟩
  have HTL := Lib.hid htl
  have hheld := hHeld.trans hf10 (fun x hx _ => hx)
  clear htl hb10
  change K _ (wd.setCell ⟨g, 3 + P, none⟩ (.int .i64 mx))
  generalize wd.setCell ⟨g, 3 + P, none⟩ (.int .i64 mx) = we at *
  refine hK.out _ _ hheld (fun hHeld => ?_)
  clear hK K
  simp only [Act.put, List.setIfInBounds_toArray, List.set_cons_zero, List.set_cons_succ]
  refine wpAnyH_done (by kernel_rfl) ?_ _
  have HFE := Lib.hid hHeld
  clear hHeld hheld hf10 cp9
  clear hp64 hcq64
  go_wp2_with fail
  go_ret
  refine ⟨rfl, ?_, ?_⟩
  · rw [← HTE.out]
    exact HTL.out
  · rw [HS.out]
    exact ((((HF0.out.and HF4.out (by simp)).mono (T := [g, bv, bp]) (by simp)).trans HF7.out (fun x hx _ => by simp at hx; simp [hx])).trans HF9.out (fun x hx _ => by simp at hx; simp [hx])).trans HFE.out (fun x hx _ => by simp at hx; simp [hx])
end Go.Proofs.Ytfmkegblhpnfcaa

namespace Go.Proofs.Ytfmkegblhpnfcaa
set_option maxRecDepth 100000
open Go.RowKit
theorem index64 (L : List Value) (k : Nat) (hk : k < 64) (v : Value) (hv : L[k]? = some v) (w : World) : (Instr.index 57 (.agg L.toArray) (.int .i64 (k : Int))).run Try.prog w = .ok v w := by
  have h1 : (0 : Int) ≤ k ∧ (k : Int) < 64 := by omega
  have h3 : ¬ 64 ≤ k := by omega
  have h2 : (sizeOf 3).run Try.prog w = .ok 1 w := by kernel_rfl
  simp [Instr.index, run_underlying Try.underlying57, asIntOf, h1, h2, h3, hv, go_sem]
theorem heardV_cut (T : List Tv) (x : Int) (k : Nat) : (List.range (k + 1)).countP (heardP T x) = (List.range k).countP (heardP T x) + if heardP T x k = true then 1 else 0 := by
  rw [List.range_succ, List.countP_append]
  simp
theorem row_h64 : RowTy Try.prog 57 64 := ⟨by kernel_rfl, by kernel_rfl⟩
set_option maxHeartbeats 1000000 in
theorem heard_any (w : World) (S : List Nat) (g : Nat) (n : Int) (T : List Tv) (h : Tl w S g n T) (x : Int) :
    Calls Try.prog 14 #[.pointer (some ⟨g, 0, none⟩), .int .i64 x] w fun e w' => e = .returned (.int .i64 (heardV T x : Nat)) ∧ w = w' := by
  obtain ⟨bv, bp, lv, lp, -, -, -, -, -, hb, -, -, -, -, -, -⟩ := h.cell0
  have HRG : Hid (w.rangeAt g 3 ((List.range 64).map fun p => .int .i64 (lastV T p))) := Lib.hid (by
    intro j v hv
    have hj : j < 64 := by
      have := List.getElem?_eq_some_iff.1 hv
      simpa using this.1
    have hc := hb.cell (3 + j)
    rw [List.getElem?_toArray, tcells_at n bv bp T j hj] at hc
    rw [List.getElem?_map, List.getElem?_range hj] at hv
    simp at hv
    rw [← hv]
    simpa using hc)
  have HIX : Hid (∀ (k : Nat), k < 64 → ∀ W, (Instr.index 57 (.agg ((List.range 64).map fun p => Value.int .i64 (lastV T p)).toArray) (.int .i64 (k : Int))).run Try.prog W = .ok (.int .i64 (lastV T k)) W) := Lib.hid (fun k hk W => index64 _ k hk _ (by simp [hk]) W)
  have HLN : Hid (((List.range 64).map fun p => Value.int .i64 (lastV T p)).length = 64) := Lib.hid (by simp)
  clear h hb
  generalize ((List.range 64).map fun p => Value.int .i64 (lastV T p)) = L at *
  go_enter Try.func14, Try.ntmps14
  go_wp2_with (refine wpList_row rfl 57 _ rfl g 3 rfl L HRG.out (row_h64.of HLN.out) ?_)
  go_loop [5, 7, 12] (fun a b i => ∃ (k c : Nat), k ≤ 64 ∧ i = .int .i64 k ∧ a = .int .i64 c ∧ c = (List.range k).countP (heardP T x)) (fun _ _ i => 64 - (intOf i).toNat)
  case atStart => exact ⟨0, 0, by omega, rfl, rfl, rfl⟩
  case round =>
    obtain ⟨k, c, hk, rfl, rfl, hc⟩ := hrel
    have HC := Lib.hid hc
    clear hc
    by_cases hlt : k < 64
    · have hix := HIX.out k hlt
      have hcut := Lib.hid (heardV_cut T x k)
      have hP : Hid (heardP T x k = decide (lastV T k ≠ -1 ∧ x ≤ lastV T k)) := Lib.hid rfl
      generalize lastV T k = v at *
      have hcl : Hid (c ≤ 64) := Lib.hid (by have h := List.countP_le_length (p := heardP T x) (l := List.range k); rw [List.length_range] at h; have := HC.out; omega)
      have hc64 : (c : Int) < 100 := by have := hcl.out; omega
      by_cases h1 : v = -1
      · subst h1
        go_wp2
        go_round
        case rel => exact ⟨k + 1, c, by omega, by go_num, rfl, by rw [hcut.out, hP.out, ← HC.out]; simp⟩
        case measure => simp [intOf]; omega
      · have n1 : (v != -1) = true := by simpa using h1
        by_cases h2 : x ≤ v
        · have hd : decide (x ≤ v) = true := decide_eq_true h2
          go_wp2
          go_round
          case rel => exact ⟨k + 1, c + 1, by omega, by go_num, by go_num, by rw [hcut.out, hP.out, ← HC.out]; simp [h1, h2]⟩
          case measure => simp [intOf]; omega
        · have hd : decide (x ≤ v) = false := decide_eq_false h2
          go_wp2
          go_round
          case rel => exact ⟨k + 1, c, by omega, by go_num, rfl, by rw [hcut.out, hP.out, ← HC.out]; simp [h1, h2]⟩
          case measure => simp [intOf]; omega
    · have hkn : k = 64 := by omega
      subst hkn
      go_wp2
      go_ret
      exact ⟨by rw [HC.out]; rfl, rfl⟩
end Go.Proofs.Ytfmkegblhpnfcaa

namespace Go.Proofs.Ytfmkegblhpnfcaa
set_option maxRecDepth 100000
open Go.RowKit
theorem tadd_any (w : World) (S : List Nat) (g : Nat) (n : Int) (T : List Tv) (h : Tl w S g n T) (hT : TOk n T) (k r p : Int) (hs : List UInt8) (hh : hs.length = 32) :
    Calls Try.prog 10 #[.pointer (some ⟨g, 0, none⟩), .int .i64 k, .int .i64 r, .int .i64 p, .agg (hs.map by8).toArray] w fun e w' => e = .returned (.bool (mayV n T k r p)) ∧ Tl w' S g n (addV n T k r p hs) ∧ Fr S w w' := by
  cases hA : argV n k r p with
  | true => exact add_go w S g n T h hT k r p hs hh hA
  | false =>
    refine (add_arg w S g n T h k r p hs hA).mono ?_
    rintro e w' ⟨rfl, hf⟩
    have hm : mayV n T k r p = false := by
      unfold mayV
      unfold argV at hA
      rw [hA]
      rfl
    unfold addV
    rw [hm]
    exact ⟨rfl, h.keep hf (by simp), hf.mono (by simp)⟩
theorem TOk.add {n : Int} {T : List Tv} (h : TOk n T) (hl : T.length + 1 < 1048576) (k r p : Int) {hs : List UInt8} (hh : hs.length = 32) : TOk n (addV n T k r p hs) :=
  ⟨h.gd.add k r p hh, h.n, Nat.lt_of_le_of_lt (addV_len n T k r p hs) hl⟩
def ncells (n : Int) (bv bp : Nat) (k : Nat) : List Value := [.int .i64 n, .map (some bv), .map (some bp)] ++ (List.range 64).map fun p => .int .i64 (if p < k then -1 else 0)
theorem ncells_set (n : Int) (bv bp k : Nat) (hk : k < 64) : (ncells n bv bp k).toArray.setIfInBounds (3 + k) (.int .i64 (-1)) = (ncells n bv bp (k + 1)).toArray := by
  have e : 3 + k = k + 1 + 1 + 1 := by omega
  rw [List.setIfInBounds_toArray, e]
  have e2 : ((List.range 64).map fun p => Value.int .i64 (if p < k then -1 else 0)).set k (.int .i64 (-1)) = (List.range 64).map fun p => Value.int .i64 (if p < k + 1 then -1 else 0) := by
    apply List.ext_getElem
    · simp
    · intro i h1 h2
      have hi : i < 64 := by simpa using h2
      rw [List.getElem_set]
      by_cases hik : k = i
      · subst hik
        simp
      · have h3 : (i < k + 1) = (i < k) := by apply propext; omega
        simp [hik, h3]
  have e3 : (ncells n bv bp k).set (k + 1 + 1 + 1) (.int .i64 (-1)) = ncells n bv bp (k + 1) := by
    unfold ncells
    rw [← e2]
    rfl
  rw [e3]
theorem ncells_all (n : Int) (bv bp : Nat) : ncells n bv bp 64 = tcells n bv bp [] := by
  rfl
theorem ncells_len (n : Int) (bv bp k : Nat) : (ncells n bv bp k).length = 67 := by simp [ncells]
theorem built_tl (n : Int) (bv bp : Nat) : Try.prog.built 59 [(0, .int .i64 n), (1, .map (some bv)), (2, .map (some bp))] = some (ncells n bv bp 0).toArray := by kernel_rfl
theorem row_conf2 : RowTy Try.prog 24 2 := ⟨by kernel_rfl, by kernel_rfl⟩
set_option maxHeartbeats 1000000 in
theorem tnew_ok (f k : Int) (h : confB f k = true) (w : World) :
    Calls Try.prog 7 #[.agg #[.int .i64 f, .int .i64 k]] w fun e w' => ∃ S g, e = .returned (.tuple #[.pointer (some ⟨g, 0, none⟩), .int .i64 0]) ∧ Tl w' S g (3 * f + 1) [] ∧ Fr [] w w' ∧ ∀ y ∈ S, w.heap.size ≤ y := by
  have h4 : 1 ≤ f ∧ f ≤ 21 ∧ 1 ≤ k ∧ k ≤ 100 := by simpa [confB] using h
  have H1 := Lib.hid h
  have hf : -1000 ≤ f ∧ f ≤ 1000 := by omega
  have H4 := Lib.hid hf
  clear h h4 hf
  have HB0 : Hid (Blk (w.alloc (Obj.cells #[.int .i64 f, .int .i64 k] 24)) w.heap.size 24 #[.int .i64 f, .int .i64 k]) := Lib.hid (Blk.new _ _ _)
  have HF0 : Hid (Fr [] w (w.alloc (Obj.cells #[.int .i64 f, .int .i64 k] 24))) := Lib.hid ((Fr.refl [] w).alloc _)
  go_enter Try.func7, Try.ntmps7
  go_upto_region 1 with (fail)
  generalize w.alloc (Obj.cells #[.int .i64 f, .int .i64 k] 24) = wa at *
  go_wp2_with (refine wpList_row rfl 24 _ rfl _ _ rfl _ (Blk.range HB0.out) row_conf2 ?_)
  refine (validConf_any f k _).mono ?_
  rw [H1.out]
  rintro e w1 ⟨rfl, hf1⟩
  have HF1 := Lib.hid hf1
  have HB1 := Lib.hid (HB0.out.keep hf1 (by simp))
  clear hf1
  go_wp2_with (refine wpList_row rfl 24 _ rfl _ _ rfl _ (Blk.range HB1.out) row_conf2 ?_)
  refine (wireN_any f k H4.out _).mono ?_
  rintro e w2 ⟨rfl, hf2⟩
  have HF2 := Lib.hid hf2
  have HFW := Lib.hid ((HF0.out.and HF1.out (by simp)).and HF2.out (by simp))
  clear hf2
  have HMM := Lib.hid (@run_makeMap Try.prog)
  have hmm := HMM.out
  go_upto_region 4 with (refine wpList_builtg rfl 59 _ rfl _ _ (built_tl (3 * f + 1) _ _) rfl ?_)
  have hb := Blk.new ((w2.alloc (.map #[] 0)).alloc (.map #[] 0)) 59 (ncells (3 * f + 1) w2.heap.size (w2.heap.size + 1) 0).toArray
  have hs2 : ((w2.alloc (.map #[] 0)).alloc (.map #[] 0)).heap.size = w2.heap.size + 1 + 1 := by simp
  rw [hs2] at hb
  have hmv : MapAt balKey (((w2.alloc (Obj.map #[] 0)).alloc (Obj.map #[] 0)).alloc (Obj.cells (ncells (3 * f + 1) w2.heap.size (w2.heap.size + 1) 0).toArray 59)) w2.heap.size [] := (MapAt.made balKey w2).keep (((Fr.refl [] _).alloc _).alloc _) (by simp)
  have hmp : MapAt polKey (((w2.alloc (Obj.map #[] 0)).alloc (Obj.map #[] 0)).alloc (Obj.cells (ncells (3 * f + 1) w2.heap.size (w2.heap.size + 1) 0).toArray 59)) (w2.heap.size + 1) [] := by
    have := MapAt.made polKey (w2.alloc (.map #[] 0))
    rw [show (w2.alloc (.map #[] 0)).heap.size = w2.heap.size + 1 by simp] at this
    exact this.keep ((Fr.refl [] _).alloc _) (by simp)
  have hfr : Fr [] w (((w2.alloc (Obj.map #[] 0)).alloc (Obj.map #[] 0)).alloc (Obj.cells (ncells (3 * f + 1) w2.heap.size (w2.heap.size + 1) 0).toArray 59)) := ((HFW.out.alloc _).alloc _).alloc _
  generalize ((w2.alloc (Obj.map #[] 0)).alloc (Obj.map #[] 0)).alloc (Obj.cells (ncells (3 * f + 1) w2.heap.size (w2.heap.size + 1) 0).toArray 59) = w3 at *
  obtain ⟨n, hn⟩ : ∃ n, n = 3 * f + 1 := ⟨_, rfl⟩
  rw [← hn] at hb ⊢
  have HN := Lib.hid hn
  have HSZ : Hid (w.heap.size ≤ w2.heap.size) := Lib.hid HFW.out.size
  obtain ⟨bv, hbv⟩ : ∃ bv, bv = w2.heap.size := ⟨_, rfl⟩
  rw [← hbv] at hb hmv hmp HSZ ⊢
  have HB := Lib.hid hb
  have HMV := Lib.hid hmv
  have HMP := Lib.hid hmp
  have HFR := Lib.hid hfr
  clear hb hmv hmp hfr hs2 hn hbv HMM hmm HB0 HF0 HF1 HB1 HF2 HFW
  go_upto_region 5 with (fail)
  go_loopw [5, 15, 16, 17, 18, 19, 20, 21, 22, 23] (fun s5 i s16 s17 s18 s19 s20 s21 s22 s23 wr => ∃ q : Nat, q ≤ 64 ∧ i = .int .i64 q ∧ Blk wr (bv + 1 + 1) 59 (ncells n bv (bv + 1) q).toArray ∧ MapAt balKey wr bv [] ∧ MapAt polKey wr (bv + 1) [] ∧ Fr [] w wr) (fun _ i _ _ _ _ _ _ _ _ _ => 64 - (intOf i).toNat)
  case atStart => exact ⟨0, by omega, rfl, HB.out, HMV.out, HMP.out, HFR.out⟩
  case round =>
    obtain ⟨q, hq, rfl, hb, hmv, hmp, hfr⟩ := hrel
    have HBq := Lib.hid hb
    have HMVq := Lib.hid hmv
    have HMPq := Lib.hid hmp
    have HFRq := Lib.hid hfr
    clear hb hmv hmp hfr
    by_cases hlt : q < 64
    · have hq64 : (q : Int) < 64 := by omega
      have hb2 := HBq.out.set (3 + q) (.int .i64 (-1))
      rw [ncells_set n bv (bv + 1) q hlt] at hb2
      have hf2 : Fr [bv + 1 + 1] wr (wr.setCell ⟨bv + 1 + 1, 3 + q, none⟩ (.int .i64 (-1))) := (Fr.refl [bv + 1 + 1] wr).setCell _ (by simp) _
      have HB2 := Lib.hid hb2
      have HMV2 := Lib.hid (HMVq.out.keep hf2 (by simp; omega))
      have HMP2 := Lib.hid (HMPq.out.keep hf2 (by simp))
      have HFR2 := Lib.hid (HFRq.out.and hf2 (by have := HSZ.out; simp; omega))
      clear hb2 hf2
      go_upto_region 7 with (fail)
      go_upto_region 8 with (refine wpList_plain rfl (fun K hK => wp_store_cell1 3 _ _ rfl (bv + 1 + 1) (3 + q) (.int .i64 (-1)) rfl rfl rfl 59 _ HBq.out (by rw [List.size_toArray, ncells_len]; omega) (by kernel_rfl) (hK _ _ ?_)))
      generalize wr.setCell ⟨bv + 1 + 1, 3 + q, none⟩ (.int .i64 (-1)) = wz at *
      go_wp2
      go_roundw
      case rel => exact ⟨q + 1, by omega, by go_num, HB2.out, HMV2.out, HMP2.out, HFR2.out⟩
      case measure => simp [intOf]; omega
    · have hq2 : q = 64 := by omega
      subst hq2
      go_wp2
      go_ret2
      refine ⟨[bv + 1 + 1, bv, bv + 1], bv + 1 + 1, rfl, ⟨bv, bv + 1, [], [], rfl, by omega, ?_, HMVq.out, HMPq.out, fun x => by simp [valB, cntH], fun x => by simp [valP, cntA], Nat.le_refl _, Nat.le_refl _⟩, HFRq.out, ?_⟩
      · rw [← ncells_all, ← HN.out]
        exact HBq.out
      · intro y hy
        have := HSZ.out
        simp at hy
        omega
set_option maxHeartbeats 1000000 in
theorem tnew_no (f k : Int) (h : confB f k = false) (w : World) :
    Calls Try.prog 7 #[.agg #[.int .i64 f, .int .i64 k]] w fun e w' => e = .returned (.tuple #[.pointer none, .int .i64 1]) ∧ Fr [] w w' := by
  have H1 := Lib.hid h
  clear h
  have HB0 : Hid (Blk (w.alloc (Obj.cells #[.int .i64 f, .int .i64 k] 24)) w.heap.size 24 #[.int .i64 f, .int .i64 k]) := Lib.hid (Blk.new _ _ _)
  have HF0 : Hid (Fr [] w (w.alloc (Obj.cells #[.int .i64 f, .int .i64 k] 24))) := Lib.hid ((Fr.refl [] w).alloc _)
  go_enter Try.func7, Try.ntmps7
  go_upto_region 1 with (fail)
  generalize w.alloc (Obj.cells #[.int .i64 f, .int .i64 k] 24) = wa at *
  go_wp2_with (refine wpList_row rfl 24 _ rfl _ _ rfl _ (Blk.range HB0.out) row_conf2 ?_)
  refine (validConf_any f k _).mono ?_
  rw [H1.out]
  rintro e w1 ⟨rfl, hf1⟩
  have HF1 := Lib.hid hf1
  clear hf1
  go_wp2
  go_ret2
  exact ⟨rfl, HF0.out.and HF1.out (by simp)⟩
end Go.Proofs.Ytfmkegblhpnfcaa

namespace Go.Proofs.Ytfmkegblhpnfcaa
set_option maxRecDepth 100000
open Go.RowKit
theorem tquorum_any (F k : Int) (hF : 0 ≤ F ∧ F ≤ 1000) (w : World) : Calls Try.prog 21 #[.agg #[.int .i64 F, .int .i64 k]] w fun e w' => e = .returned (.int .i64 (2 * F + 1)) ∧ Fr [] w w' := by
  have h1 : IntKind.i64.wrap (2 * F) = 2 * F := by rw [IntKind.wrap_i64]; omega
  have h2 : IntKind.i64.wrap (2 * F + 1) = 2 * F + 1 := by rw [IntKind.wrap_i64]; omega
  go_enter Try.func21, Try.ntmps21
  go_wp2
  go_ret
  exact ⟨rfl, (Fr.refl [] w).alloc _⟩
theorem tn_any (F k : Int) (hF : 0 ≤ F ∧ F ≤ 1000) (w : World) : Calls Try.prog 13 #[.agg #[.int .i64 F, .int .i64 k]] w fun e w' => e = .returned (.int .i64 (3 * F + 1)) ∧ Fr [] w w' := by
  have h1 : IntKind.i64.wrap (3 * F) = 3 * F := by rw [IntKind.wrap_i64]; omega
  have h2 : IntKind.i64.wrap (3 * F + 1) = 3 * F + 1 := by rw [IntKind.wrap_i64]; omega
  go_enter Try.func13, Try.ntmps13
  go_wp2
  go_ret
  exact ⟨rfl, (Fr.refl [] w).alloc _⟩
/-- a hash of one byte -/
def h1b (b : UInt8) : List UInt8 := b :: List.replicate 31 0
theorem h1b_len (b : UInt8) : (h1b b).length = 32 := by simp [h1b]
theorem built_h (b : UInt8) : Try.prog.built 30 [(0, by8 b)] = some ((h1b b).map by8).toArray := by kernel_rfl
set_option maxHeartbeats 1000000 in
theorem twakes_any (w : World) : Calls Try.prog 16 #[] w fun e w' => e = .returned (.bool true) ∧ Fr [] w w' := by
  go_enter Try.func16, Try.ntmps16
  go_wp2_with fail
  refine (tnew_ok 1 1 (by decide) w).mono ?_
  rintro e w1 ⟨S, g, rfl, ht, hf1, hs⟩
  have HT := Lib.hid ht
  have HF1 := Lib.hid hf1
  have HS := Lib.hid hs
  have HO : Hid (TOk 4 []) := Lib.hid ⟨trivial, by decide, by decide⟩
  have HBU := Lib.hid (built_h 5)
  clear ht hf1 hs
  go_wp2_with fail
  refine (all_any w1 S g 4 [] HT.out HO.out 1 0 (by unfold i64In; omega) (by unfold i64In; omega)).mono ?_
  rintro e w2 ⟨rfl, rfl⟩
  have e0 : ((cntA [] 1 0 : Nat) : Int) = 0 := rfl
  have hbu : Try.prog.built 30 [(0, .int .u8 5)] = some ((h1b 5).map by8).toArray := HBU.out
  generalize hHH : ((h1b 5).map by8).toArray = H5 at *
  have HH5 := Lib.hid hHH
  clear hHH
  rw [e0]
  clear e0
  go_wp2_with (refine wpList_builtg rfl 30 _ rfl _ _ hbu rfl ?_)
  rw [← HH5.out]
  refine (tadd_any w1 S g 4 [] HT.out HO.out 1 0 2 (h1b 5) (h1b_len 5)).mono ?_
  rintro e w3 ⟨rfl, ht3, hf3⟩
  rw [show mayV 4 [] 1 0 2 = true by decide]
  rw [show addV 4 [] 1 0 2 (h1b 5) = [⟨1, 0, 2, h1b 5⟩] by rfl] at ht3
  have HT3 := Lib.hid ht3
  have HF3 := Lib.hid (HF1.out.and hf3 HS.out)
  clear ht3 hf3
  rw [HH5.out]
  go_wp2_with (refine wpList_builtg rfl 30 _ rfl _ _ hbu rfl ?_)
  rw [← HH5.out]
  refine (for_any w3 S g 4 _ HT3.out 1 0 (by unfold i64In; omega) (by unfold i64In; omega) (h1b 5) (h1b_len 5)).mono ?_
  rintro e w4 ⟨rfl, hf4⟩
  rw [show cntH [⟨1, 0, 2, h1b 5⟩] 1 0 (h1b 5) = 1 by decide]
  have HF4 := Lib.hid (HF3.out.and hf4 (by simp))
  clear hf4
  go_wp2
  go_ret
  exact ⟨rfl, HF4.out⟩
end Go.Proofs.Ytfmkegblhpnfcaa
