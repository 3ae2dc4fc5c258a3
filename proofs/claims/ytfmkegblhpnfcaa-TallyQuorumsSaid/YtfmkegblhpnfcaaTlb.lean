/- Votes as a list, the newest first: what is counted, which replicas voted, which hash has the most, whom one has heard of. No program. -/
import Derived.Test.YtfmkegblhpnfcaaPop
import Derived.Test.YtfmkegblhpnfcaaShaC
set_option linter.unusedSimpArgs false
set_option linter.unusedVariables false
namespace Go.Proofs.Ytfmkegblhpnfcaa
set_option maxRecDepth 100000
/-- a vote: kind, round, replica, hash -/
structure Tv where
  k : Int
  r : Int
  p : Nat
  h : List UInt8
def cntH (T : List Tv) (k r : Int) (h : List UInt8) : Nat := T.countP fun v => decide (v.k = k ∧ v.r = r ∧ v.h = h)
def cntA (T : List Tv) (k r : Int) : Nat := T.countP fun v => decide (v.k = k ∧ v.r = r)
def hasV (T : List Tv) (k r : Int) (p : Nat) : Bool := T.any fun v => decide (v.k = k ∧ v.r = r ∧ v.p = p)
def mskV : List Tv → Int → Int → Nat
  | [], _, _ => 0
  | v :: T, k, r => if v.k = k ∧ v.r = r then mskV T k r ||| 2 ^ v.p else mskV T k r
def zh32 : List UInt8 := List.replicate 32 0
def betV (c : List UInt8 → Nat) (a b : List UInt8) : List UInt8 := if c b < c a ∨ (c a = c b ∧ lessB a b = true) then a else b
def mstV : List Tv → Int → Int → List UInt8
  | [], _, _ => zh32
  | v :: T, k, r => if v.k = k ∧ v.r = r then betV (cntH (v :: T) k r) (mstV T k r) v.h else mstV T k r
def lastV : List Tv → Nat → Int
  | [], _ => -1
  | v :: T, p => if v.p = p then max (lastV T p) v.r else lastV T p
def heardP (T : List Tv) (x : Int) (p : Nat) : Bool := decide (lastV T p ≠ -1 ∧ x ≤ lastV T p)
def heardV (T : List Tv) (x : Int) : Nat := (List.range 64).countP (heardP T x)
structure Tv.Ok (n : Int) (v : Tv) : Prop where
  k : v.k = 1 ∨ v.k = 2
  r : 0 ≤ v.r ∧ v.r ≤ 1048576
  p : (v.p : Int) < n
  h : v.h.length = 32
/-- votes that are counted: each may be, none is there twice -/
def Gd (n : Int) : List Tv → Prop
  | [] => True
  | v :: T => v.Ok n ∧ hasV T v.k v.r v.p = false ∧ Gd n T
/-- may this vote be counted? -/
def mayV (n : Int) (T : List Tv) (k r p : Int) : Bool := decide ((k = 1 ∨ k = 2) ∧ 0 ≤ r ∧ r ≤ 1048576 ∧ 0 ≤ p ∧ p < n) && !hasV T k r p.toNat
def addV (n : Int) (T : List Tv) (k r p : Int) (h : List UInt8) : List Tv := if mayV n T k r p = true then ⟨k, r, p.toNat, h⟩ :: T else T
theorem Gd.add {n : Int} {T : List Tv} (hT : Gd n T) (k r p : Int) {h : List UInt8} (hh : h.length = 32) : Gd n (addV n T k r p h) := by
  unfold addV
  split
  · rename_i hm
    simp only [mayV, Bool.and_eq_true, decide_eq_true_eq, Bool.not_eq_true'] at hm
    exact ⟨⟨hm.1.1, ⟨hm.1.2.1, hm.1.2.2.1⟩, by have := hm.1.2.2.2; simp only; omega, hh⟩, hm.2, hT⟩
  · exact hT
theorem Gd.mem {n : Int} {T : List Tv} (hT : Gd n T) : ∀ v ∈ T, v.Ok n := by
  induction T with
  | nil => simp
  | cons v T ih =>
    intro x hx
    rcases List.mem_cons.1 hx with rfl | hx
    · exact hT.1
    · exact ih hT.2.2 x hx
theorem addV_len (n : Int) (T : List Tv) (k r p : Int) (h : List UInt8) : (addV n T k r p h).length ≤ T.length + 1 := by unfold addV; split <;> simp
theorem mstV_len {n : Int} {T : List Tv} (hT : Gd n T) (k r : Int) : (mstV T k r).length = 32 := by
  induction T with
  | nil => simp [mstV, zh32]
  | cons v T ih =>
    unfold mstV
    split
    · unfold betV
      split
      · exact ih hT.2.2
      · exact hT.1.h
    · exact ih hT.2.2
theorem mskV_bit (T : List Tv) (k r : Int) (p : Nat) : (mskV T k r).testBit p = hasV T k r p := by
  induction T with
  | nil => simp [mskV, hasV]
  | cons v T ih =>
    unfold mskV hasV
    rw [List.any_cons]
    split
    · rename_i hc
      rw [Nat.testBit_or, ih, Nat.testBit_two_pow]
      simp [hc, hasV, Bool.or_comm]
    · rename_i hc
      rw [ih]
      have : decide (v.k = k ∧ v.r = r ∧ v.p = p) = false := decide_eq_false (fun h => hc ⟨h.1, h.2.1⟩)
      rw [this]
      rfl
theorem mskV_lt {n : Int} {T : List Tv} (hT : Gd n T) (hn : n ≤ 64) (k r : Int) : mskV T k r < 18446744073709551616 := by
  induction T with
  | nil => simp [mskV]
  | cons v T ih =>
    unfold mskV
    split
    · have hp : v.p < 64 := by have := hT.1.p; omega
      have h2 : (2 : Nat) ^ v.p < 2 ^ 64 := Nat.pow_lt_pow_right (by omega) hp
      exact Nat.or_lt_two_pow (n := 64) (ih hT.2.2) h2
    · exact ih hT.2.2
theorem pop_msk {n : Int} {T : List Tv} (hT : Gd n T) (hn : n ≤ 64) (k r : Int) : Pop.pop 64 (mskV T k r) = cntA T k r := by
  induction T with
  | nil => exact Pop.pop_zero 64
  | cons v T ih =>
    unfold mskV cntA
    rw [List.countP_cons]
    split
    · rename_i hc
      have hp : v.p < 64 := by have := hT.1.p; omega
      have hb : (mskV T k r).testBit v.p = false := by
        rw [mskV_bit]
        have := hT.2.1
        rwa [hc.1, hc.2] at this
      rw [Pop.pop_or 64 v.p _ hp hb, ih hT.2.2]
      simp [cntA, hc]
    · rename_i hc
      rw [ih hT.2.2]
      simp [cntA, hc]
theorem cntA_le (T : List Tv) (k r : Int) : cntA T k r ≤ T.length := List.countP_le_length
theorem cntH_le (T : List Tv) (k r : Int) (h : List UInt8) : cntH T k r h ≤ T.length := List.countP_le_length
theorem cntH_cons (v : Tv) (T : List Tv) (k r : Int) (h : List UInt8) : cntH (v :: T) k r h = cntH T k r h + if v.k = k ∧ v.r = r ∧ v.h = h then 1 else 0 := by
  unfold cntH
  rw [List.countP_cons]
  simp
theorem cntA_cons (v : Tv) (T : List Tv) (k r : Int) : cntA (v :: T) k r = cntA T k r + if v.k = k ∧ v.r = r then 1 else 0 := by
  unfold cntA
  rw [List.countP_cons]
  simp
theorem lastV_ge {n : Int} {T : List Tv} (hT : Gd n T) (p : Nat) : -1 ≤ lastV T p ∧ lastV T p ≤ 1048576 := by
  induction T with
  | nil => simp [lastV]
  | cons v T ih =>
    have h1 := ih hT.2.2
    have h2 := hT.1.r
    unfold lastV
    split <;> omega
theorem lastV_cons {n : Int} {v : Tv} {T : List Tv} (p : Nat) : lastV (v :: T) p = if v.p = p then max (lastV T p) v.r else lastV T p := rfl
end Go.Proofs.Ytfmkegblhpnfcaa
