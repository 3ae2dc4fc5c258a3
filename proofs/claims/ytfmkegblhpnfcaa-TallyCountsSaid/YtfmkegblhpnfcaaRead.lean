/- Each read of a reader as one function of what is left; and what reads of written bytes, whole or cut off, come to. -/
import Derived.Test.YtfmkegblhpnfcaaBase
import Derived.Test.YtfmkegblhpnfcaaActs
import Derived.Stop.BytesEq
set_option linter.unusedSimpArgs false
set_option linter.unusedVariables false
namespace Go.Proofs.Ytfmkegblhpnfcaa
set_option maxRecDepth 100000
open Go.RowKit

def rdN (R : List UInt8) : Nat := match dec R with | some (v, _) => v | none => 0
def rdL (R : List UInt8) : List UInt8 := match dec R with | some (_, s) => R.drop s | none => []
def rdB (R : List UInt8) (bad : Bool) : Bool := match dec R with | some _ => bad | none => true
def inN (R : List UInt8) (m : Int) : Nat := match dec R with | some (v, _) => if (v : Int) ≤ m then v else 0 | none => 0
def inL (R : List UInt8) (m : Int) : List UInt8 := match dec R with | some (v, s) => if (v : Int) ≤ m then R.drop s else [] | none => []
def inB (R : List UInt8) (m : Int) (bad : Bool) : Bool := match dec R with | some (v, _) => if (v : Int) ≤ m then bad else true | none => true
def rwV (R : List UInt8) (m : Int) : List UInt8 := match dec R with | some (v, s) => if (v : Int) ≤ m ∧ s + v ≤ R.length then (R.drop s).take v else [] | none => []
def rwL (R : List UInt8) (m : Int) : List UInt8 := match dec R with | some (v, s) => if (v : Int) ≤ m ∧ s + v ≤ R.length then R.drop (s + v) else [] | none => []
def rwB (R : List UInt8) (m : Int) (bad : Bool) : Bool := match dec R with | some (v, s) => if (v : Int) ≤ m ∧ s + v ≤ R.length then bad else true | none => true

section
variable {w : World} {B g : Nat} {R : List UInt8} {bad : Bool}
end

/-! ### hashes held against each other -/
theorem u8_size1 (w : World) : (sizeOf 5).run Try.prog w = .ok 1 w := by
  have h := u8_size
  cases hq : Try.prog.info? 5 with
  | none => rw [hq] at h; cases h
  | some i => rw [hq] at h; simp at h; simp [sizeOf, typeInfo, hq, h]
theorem hash_eql (xs ys : List UInt8) (hx : xs.length = 32) (hy : ys.length = 32) (w : World) :
    (Op.equalIn 10000 30 (.agg (xs.map by8).toArray) (.agg (ys.map by8).toArray)).run Try.prog w = .ok (decide (xs = ys)) w := by
  have h := run_equalIn_bytes (P := Try.prog) w 9998 30 5 32 Try.underlying30 Try.underlying5 u8_size1 xs ys hx hy
  rw [show decide (xs = ys) = (xs == ys) by rw [Bool.eq_iff_iff]; simp]
  exact h

/-! ### what reads come to -/
theorem hashOf_len (R : List UInt8) : (hashOf R).length = 32 := by
  have := took_le R
  unfold hashOf
  rw [List.length_append, List.length_drop, List.length_replicate]
  omega
theorem rd_enc {m : Nat} (h : m < 18446744073709551616) (r : List UInt8) : rdN (enc m ++ r) = m ∧ rdL (enc m ++ r) = r ∧ ∀ bad, rdB (enc m ++ r) bad = bad := by
  unfold rdN rdL rdB
  rw [dec_enc h r]
  exact ⟨rfl, List.drop_left, fun _ => rfl⟩
theorem rd_none {R : List UInt8} (h : dec R = none) : rdN R = 0 ∧ rdL R = [] ∧ ∀ bad, rdB R bad = true := by
  unfold rdN rdL rdB
  rw [h]
  exact ⟨rfl, rfl, fun _ => rfl⟩
theorem in_enc {n : Nat} {m : Int} (h : n < 18446744073709551616) (hm : n ≤ m) (r : List UInt8) : inN (enc n ++ r) m = n ∧ inL (enc n ++ r) m = r ∧ ∀ bad, inB (enc n ++ r) m bad = bad := by
  unfold inN inL inB
  rw [dec_enc h r]
  simp only [if_pos hm]
  exact ⟨by trivial, List.drop_left, fun _ => by trivial⟩
theorem in_none {R : List UInt8} {m : Int} (h : dec R = none) : inN R m = 0 ∧ inL R m = [] ∧ ∀ bad, inB R m bad = true := by
  unfold inN inL inB
  rw [h]
  exact ⟨rfl, rfl, fun _ => rfl⟩
theorem rw_enc {b : List UInt8} {m : Int} (h : b.length < 18446744073709551616) (hm : b.length ≤ m) (r : List UInt8) : rwV (enc b.length ++ b ++ r) m = b ∧ rwL (enc b.length ++ b ++ r) m = r ∧ ∀ bad, rwB (enc b.length ++ b ++ r) m bad = bad := by
  unfold rwV rwL rwB
  rw [List.append_assoc, dec_enc h (b ++ r)]
  have hc : (b.length : Int) ≤ m ∧ (enc b.length).length + b.length ≤ (enc b.length ++ (b ++ r)).length := ⟨hm, by simp only [List.length_append]; omega⟩
  simp only [if_pos hc]
  rw [List.drop_left, List.take_left, ← List.drop_drop, List.drop_left, List.drop_left]
  exact ⟨by trivial, by trivial, fun _ => by trivial⟩
theorem rw_none {R : List UInt8} {m : Int} (h : dec R = none ∨ ∃ v s, dec R = some (v, s) ∧ R.length < s + v) : rwV R m = [] ∧ rwL R m = [] ∧ ∀ bad, rwB R m bad = true := by
  unfold rwV rwL rwB
  rcases h with h | ⟨v, s, h, hl⟩
  · rw [h]; exact ⟨rfl, rfl, fun _ => rfl⟩
  · rw [h]
    have hc : ¬ ((v : Int) ≤ m ∧ s + v ≤ R.length) := by omega
    simp only [if_neg hc]
    exact ⟨trivial, trivial, fun _ => trivial⟩
theorem rw_over {R : List UInt8} {v k : Nat} {m : Int} (h : dec R = some (v, k)) (hm : m < v) : rwV R m = [] ∧ rwL R m = [] ∧ ∀ bad, rwB R m bad = true := by
  unfold rwV rwL rwB
  rw [h]
  have hc : ¬ ((v : Int) ≤ m ∧ k + v ≤ R.length) := by omega
  simp only [if_neg hc]
  exact ⟨trivial, trivial, fun _ => trivial⟩
theorem rw_cut {b : List UInt8} {m : Int} {t : Nat} (h : b.length < 18446744073709551616) (ht : t < (enc b.length ++ b).length) :
    rwV ((enc b.length ++ b).take t) m = [] ∧ rwL ((enc b.length ++ b).take t) m = [] ∧ ∀ bad, rwB ((enc b.length ++ b).take t) m bad = true := by
  apply rw_none
  by_cases hlt : t < (enc b.length).length
  · left
    rw [List.take_append_of_le_length (by omega)]
    exact dec_prefix hlt
  · right
    refine ⟨b.length, (enc b.length).length, ?_, by rw [List.length_append] at ht; rw [List.length_take, List.length_append]; omega⟩
    rw [List.take_append, List.take_of_length_le (by omega)]
    exact dec_enc h _
theorem hash_ok {h : List UInt8} (hh : h.length = 32) (r : List UInt8) : hashOf (h ++ r) = h ∧ tookL (h ++ r) = r ∧ ∀ bad, tookB (h ++ r) bad = bad := by
  unfold hashOf took tookL tookB
  have hc : ¬ (h ++ r).length < 32 := by rw [List.length_append]; omega
  rw [if_neg hc, if_neg hc]
  refine ⟨?_, by rw [← hh, List.drop_left], fun _ => by rw [if_neg hc]⟩
  rw [← hh, List.take_left, hh]
  simp
theorem hash_short {R : List UInt8} (h : R.length < 32) : tookL R = [] ∧ ∀ bad, tookB R bad = true := by
  unfold tookL tookB
  rw [if_pos h]
  exact ⟨rfl, fun _ => by rw [if_pos h]⟩

/-- what a call writes, its rows cut at r, its numbers at m -/
def actBytes (m : Int) (r : Nat) (v : ActV) : List UInt8 :=
  if v.d % 4 = 0 then enc v.u else if v.d % 4 = 1 then enc (v.n % m).toNat else if v.d % 4 = 2 then enc (v.b.take r).length ++ v.b.take r else v.h
def written (m : Int) (r : Nat) (l : List ActV) : List UInt8 := (l.map (actBytes m r)).flatten
theorem written_snoc {m : Int} {r : Nat} {l : List ActV} {k : Nat} {v : ActV} (h : l[k]? = some v) : written m r (l.take (k + 1)) = written m r (l.take k) ++ actBytes m r v := by
  unfold written
  rw [List.take_add_one, h]
  simp
theorem written_drop {m : Int} {r : Nat} {l : List ActV} {k : Nat} {v : ActV} (h : l[k]? = some v) : written m r (l.drop k) = actBytes m r v ++ written m r (l.drop (k + 1)) := by
  unfold written
  obtain ⟨hk, rfl⟩ := List.getElem?_eq_some_iff.1 h
  rw [List.drop_eq_getElem_cons hk, List.map_cons, List.flatten_cons]
theorem actBytes_len {w : World} {m : Int} {r : Nat} {v : ActV} (h : ActOk w v) (hr : r ≤ 100) (hm : 0 < m) (hm2 : m < 9223372036854775808) : (actBytes m r v).length ≤ 110 := by
  unfold actBytes
  have h1 := Int.emod_nonneg v.n (show m ≠ 0 by omega)
  have h2 := Int.emod_lt_of_pos v.n hm
  split
  · have := enc_ten h.u; omega
  · split
    · have := enc_ten (m := (v.n % m).toNat) (by omega); omega
    · split
      · have h3 : (v.b.take r).length ≤ r := List.length_take_le _ _
        have := enc_ten (m := (v.b.take r).length) (by omega)
        rw [List.length_append]; omega
      · rw [h.h]; omega
theorem actBytes_pos {w : World} {m : Int} {r : Nat} {v : ActV} (h : ActOk w v) : 0 < (actBytes m r v).length := by
  unfold actBytes
  split
  · exact enc_pos _
  · split
    · exact enc_pos _
    · split
      · have := enc_pos (v.b.take r).length; rw [List.length_append]; omega
      · rw [h.h]; omega

/-- the reader's state: W is what the calls that are left wrote; z: nothing is cut off -/
def Rst (W : List UInt8) (z : Bool) (R : List UInt8) (bad : Bool) : Prop :=
  (bad = false ∧ ∃ t, R = W.take t ∧ (z = true → t = W.length) ∧ (z = false → t < W.length)) ∨ (z = false ∧ bad = true ∧ R = [])
theorem Rst.parts {X W : List UInt8} {z bad : Bool} {R : List UInt8} (h : Rst (X ++ W) z R bad) (hX : 0 < X.length) :
    (bad = false ∧ ∃ R', R = X ++ R' ∧ Rst W z R' false) ∨ (z = false ∧ ∃ t, t < X.length ∧ R = X.take t) := by
  rcases h with ⟨rfl, t, rfl, h1, h2⟩ | ⟨rfl, rfl, rfl⟩
  · by_cases ht : X.length ≤ t
    · refine .inl ⟨rfl, W.take (t - X.length), by rw [List.take_append, List.take_of_length_le ht], .inl ⟨rfl, t - X.length, rfl, fun hz => ?_, fun hz => ?_⟩⟩
      · have := h1 hz; rw [List.length_append] at this; omega
      · have := h2 hz; rw [List.length_append] at this; omega
    · refine .inr ⟨?_, t, by omega, by rw [List.take_append_of_le_length (by omega)]⟩
      cases z
      · rfl
      · have := h1 rfl; rw [List.length_append] at this; omega
  · exact .inr ⟨rfl, 0, hX, by simp⟩
theorem Rst.bad {W : List UInt8} : Rst W false [] true := .inr ⟨rfl, rfl, rfl⟩
theorem Rst.end_ {z bad : Bool} {R : List UInt8} (h : Rst [] z R bad) : R = [] ∧ bad = !z := by
  rcases h with ⟨rfl, t, rfl, h1, h2⟩ | ⟨rfl, rfl, rfl⟩
  · cases z
    · have := h2 rfl; simp at this
    · simp
  · exact ⟨rfl, rfl⟩
theorem step_num {u : Nat} {W R : List UInt8} {z bad : Bool} (hu : u < 18446744073709551616) (h : Rst (enc u ++ W) z R bad) : (z = true → rdN R = u) ∧ Rst W z (rdL R) (rdB R bad) ∧ (rdL R).length ≤ R.length := by
  rcases h.parts (enc_pos u) with ⟨rfl, R', rfl, hs⟩ | ⟨rfl, t, ht, rfl⟩
  · obtain ⟨h1, h2, h3⟩ := rd_enc hu R'
    rw [h1, h2, h3]
    exact ⟨fun _ => rfl, hs, by simp⟩
  · obtain ⟨h1, h2, h3⟩ := rd_none (dec_prefix ht)
    rw [h2, h3]
    exact ⟨fun h => (by cases h), Rst.bad, by simp⟩
theorem step_int {n : Nat} {m : Int} {W R : List UInt8} {z bad : Bool} (hn : n < 18446744073709551616) (hm : n ≤ m) (h : Rst (enc n ++ W) z R bad) : (z = true → inN R m = n) ∧ Rst W z (inL R m) (inB R m bad) ∧ (inL R m).length ≤ R.length := by
  rcases h.parts (enc_pos n) with ⟨rfl, R', rfl, hs⟩ | ⟨rfl, t, ht, rfl⟩
  · obtain ⟨h1, h2, h3⟩ := in_enc hn hm R'
    rw [h1, h2, h3]
    exact ⟨fun _ => rfl, hs, by simp⟩
  · obtain ⟨h1, h2, h3⟩ := in_none (m := m) (dec_prefix ht)
    rw [h2, h3]
    exact ⟨fun h => (by cases h), Rst.bad, by simp⟩
theorem step_row {b W R : List UInt8} {m : Int} {z bad : Bool} (hb : b.length < 18446744073709551616) (hm : b.length ≤ m) (h : Rst ((enc b.length ++ b) ++ W) z R bad) : (z = true → rwV R m = b) ∧ Rst W z (rwL R m) (rwB R m bad) ∧ (rwL R m).length ≤ R.length := by
  rcases h.parts (by have := enc_pos b.length; rw [List.length_append]; omega) with ⟨rfl, R', rfl, hs⟩ | ⟨rfl, t, ht, rfl⟩
  · obtain ⟨h1, h2, h3⟩ := rw_enc hb hm R'
    rw [h1, h2, h3]
    exact ⟨fun _ => rfl, hs, by simp only [List.length_append]; omega⟩
  · obtain ⟨h1, h2, h3⟩ := rw_cut (m := m) hb ht
    rw [h2, h3]
    exact ⟨fun h => (by cases h), Rst.bad, by simp⟩
theorem step_hash {h W R : List UInt8} {z bad : Bool} (hh : h.length = 32) (hr : Rst (h ++ W) z R bad) : (z = true → hashOf R = h) ∧ Rst W z (tookL R) (tookB R bad) ∧ (tookL R).length ≤ R.length := by
  rcases hr.parts (by omega) with ⟨rfl, R', rfl, hs⟩ | ⟨rfl, t, ht, rfl⟩
  · obtain ⟨h1, h2, h3⟩ := hash_ok hh R'
    rw [h1, h2, h3]
    exact ⟨fun _ => rfl, hs, by simp⟩
  · obtain ⟨h2, h3⟩ := hash_short (R := h.take t) (by rw [List.length_take]; omega)
    rw [h2, h3]
    exact ⟨fun h => (by cases h), Rst.bad, by simp⟩
theorem rwV_len (R : List UInt8) (m : Int) : (rwV R m).length ≤ R.length := by
  unfold rwV
  split
  · split
    · rw [List.length_take, List.length_drop]; omega
    · simp
  · simp
end Go.Proofs.Ytfmkegblhpnfcaa
