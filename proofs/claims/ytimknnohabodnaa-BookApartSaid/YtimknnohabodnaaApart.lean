/- The walk of BookApart. -/
import Derived.Test.YtimknnohabodnaaClone
import Derived.Test.YtimknnohabodnaaEns
import Derived.Test.YtimknnohabodnaaRowv
import Derived.Test.YtimknnohabodnaaRefW
import Derived.Deep.DeepCutAuto
import Derived.Deep.CutBlock
namespace Go.Proofs.Ytimknnohabodnaa
open Go.RowKit

/-- texts that are told apart by their last byte -/
structure Txs (ts : List (List UInt8)) : Prop where
  last : ∀ i t, ts[i]? = some t → t.getLast? = some (UInt8.ofNat i)
  short : ∀ t ∈ ts, t.length ≤ 21
  few : ts.length ≤ 8
theorem Txs.nil : Txs [] := ⟨by simp, by simp, by simp⟩
theorem Txs.snoc {ts : List (List UInt8)} (h : Txs ts) (b : List UInt8) (hb : b.length ≤ 20) (hl : ts.length < 8) : Txs (ts ++ [b ++ [UInt8.ofNat ts.length]]) := by
  refine ⟨fun i t ht => ?_, fun t ht => ?_, by simp; omega⟩
  · rw [List.getElem?_append] at ht
    split at ht
    · exact h.last i t ht
    · have hi : i - ts.length = 0 := by
        have := (List.getElem?_eq_some_iff.1 ht).1
        simp at this
        omega
      rw [hi] at ht
      simp at ht
      subst ht
      rw [show i = ts.length by omega]
      simp
  · rcases List.mem_append.1 ht with ht | ht
    · exact h.short t ht
    · simp at ht
      subst ht
      simp
      omega
theorem Txs.inj {ts : List (List UInt8)} (h : Txs ts) {i j : Nat} {t : List UInt8} (hi : ts[i]? = some t) (hj : ts[j]? = some t) : i = j := by
  have h1 := h.last i t hi
  have h2 := h.last j t hj
  rw [h1] at h2
  injection h2 with h2
  have li := (List.getElem?_eq_some_iff.1 hi).1
  have lj := (List.getElem?_eq_some_iff.1 hj).1
  have := h.few
  have h3 := congrArg UInt8.toNat h2
  simp only [UInt8.toNat_ofNat'] at h3
  omega
theorem Txs.new {ts : List (List UInt8)} (h : Txs ts) (b : List UInt8) : ¬ (b ++ [UInt8.ofNat ts.length]) ∈ ts := by
  intro hm
  obtain ⟨i, hi, he⟩ := List.getElem_of_mem hm
  have h1 := h.last i _ (by rw [List.getElem?_eq_getElem hi, he])
  simp at h1
  have := h.few
  have h3 := congrArg UInt8.toNat h1
  simp only [UInt8.toNat_ofNat'] at h3
  omega
def text1 : List UInt8 := [110, 101, 119, 44, 32, 97, 110, 100, 32, 108, 111, 110, 103, 101, 114, 32, 116, 104, 97, 110, 32, 97, 110, 121, 32, 111, 102, 32, 116, 104, 101, 32, 111, 116, 104, 101, 114, 115, 32, 119, 97, 115]
def text2 : List UInt8 := [97, 110, 111, 116, 104, 101, 114, 32, 110, 101, 119, 32, 111, 110, 101, 44, 32, 108, 111, 110, 103, 101, 114, 32, 116, 104, 97, 110, 32, 97, 110, 121, 32, 111, 102, 32, 116, 104, 101, 32, 111, 116, 104, 101, 114, 115]
theorem text1_new {ts : List (List UInt8)} (h : Txs ts) : ¬ text1 ∈ ts := fun hm => by have := h.short _ hm; simp [text1] at this
theorem text2_new {ts : List (List UInt8)} (h : Txs ts) : ¬ text2 ∈ ts := fun hm => by have := h.short _ hm; simp [text2] at this
theorem text_ne : text1 ≠ text2 := by decide
def ents (x : Int) (ts : List (List UInt8)) : List Ent := ts.map (fun t => (x, t))
theorem ents_mem {x : Int} {ts : List (List UInt8)} {t : List UInt8} : (x, t) ∈ ents x ts ↔ t ∈ ts := by
  unfold ents
  simp
theorem ents_len (x : Int) (ts : List (List UInt8)) : (ents x ts).length = ts.length := by simp [ents]
theorem ents_snoc (x : Int) (ts : List (List UInt8)) (t : List UInt8) : ents x (ts ++ [t]) = ents x ts ++ [(x, t)] := by simp [ents]
theorem sgn_ents {x : Int} {ts : List (List UInt8)} {t : List UInt8} (h : ¬ t ∈ ts) : sgn (ents x ts) (x, t) = ents x (ts ++ [t]) := by
  unfold sgn
  rw [if_neg (fun hm => h (ents_mem.1 hm)), ents_snoc]
theorem mrk_ents {x : Int} {ts : List (List UInt8)} {t : List UInt8} (h : ¬ t ∈ ts) : mrk (ents x (ts ++ [t])) (x, t) = (ts.length : Int) + 1 := by
  rw [ents_snoc, mrk_new (fun hm => h (ents_mem.1 hm)), ents_len]
  omega
/-- right for its own number alone, whatever else was signed behind -/
theorem right_at {x : Int} {ts : List (List UInt8)} {e : Ent} {i : Nat} {t : List UInt8} (h : Txs ts) (hi : ts[i]? = some t) : rightB (ents x ts ++ [e]) x ((i : Int) + 1) t = true := by
  unfold rightB
  obtain ⟨hl, hg⟩ := List.getElem?_eq_some_iff.1 hi
  have hm : (x, t) ∈ ents x ts := ents_mem.2 (by rw [← hg]; exact List.getElem_mem hl)
  have hidx : (ents x ts).idxOf (x, t) = i := by
    have hlt : (ents x ts).idxOf (x, t) < (ents x ts).length := List.idxOf_lt_length_iff.2 hm
    have hge : (ents x ts)[(ents x ts).idxOf (x, t)] = (x, t) := List.getElem_idxOf hlt
    have hts : ts[(ents x ts).idxOf (x, t)]? = some t := by
      have : (ents x ts)[(ents x ts).idxOf (x, t)]? = some (x, t) := by rw [List.getElem?_eq_getElem hlt, hge]
      unfold ents at this
      rw [List.getElem?_map] at this
      simp only [Option.map_eq_some_iff] at this
      obtain ⟨t', h1, h2⟩ := this
      simp at h2
      subst h2
      exact h1
    exact h.inj hts hi
  have h2 : (ents x ts ++ [e]).idxOf (x, t) = i := by
    rw [List.idxOf_append, if_pos hm, hidx]
  rw [h2]
  simp [hm]
theorem right_other {x : Int} {ts : List (List UInt8)} {t t2 : List UInt8} (m : Int) (h : Txs ts) (hl : 21 < t.length) (hne : t ≠ t2) : rightB (ents x ts ++ [(x, t2)]) x m t = false := by
  unfold rightB
  have hm : ¬ (x, t) ∈ ents x ts ++ [(x, t2)] := by
    intro hm
    rcases List.mem_append.1 hm with hm | hm
    · have := h.short t (ents_mem.1 hm)
      omega
    · simp at hm
      exact hne hm
  simp [hm]
theorem right_low {l : List Ent} {x m : Int} {t : List UInt8} (h : m ≤ 0) : rightB l x m t = false := by
  unfold rightB
  have : (((l.idxOf (x, t) + 1 : Nat) : Int) == m) = false := by simp; omega
  rw [this]
  simp
end Go.Proofs.Ytimknnohabodnaa
