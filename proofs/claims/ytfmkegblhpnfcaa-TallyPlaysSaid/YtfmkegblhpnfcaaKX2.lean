/- Texts that the proof stands on: gavelref13's Tally: what it is in memory; All. | '==' of two structs in a region that draws its order. | gavelref13's Tally: For. | A slice literal of one struct or array; an append of one onto a slice that the call owns. | Copies of lists of structs: gavelkeep's Copy and Cut of stamps. | gavelref13's Tally: Add of what may not be; two operations that float before a store; append onto nil. | Sorting numbers of 64 digits: what a row of them is; what an exchange makes of it; which of two is less. | Medians: what one is; that there is just one; that sorting finds it. Plain lemmas. | Lists of numbers of 64 digits: copies, cuts, slices.Clone. | gavelref13's Tally: Add. (written by gen_tr4.py) | gavelref13's Tally: Add of anything; Copy. | gavelref13's Tally: Heard. | Votes of one round, one of each replica: how many there are, whom one has heard of; how many replicas lie. No program. | The order of hashes; the hash with the most votes: it does not hang on the order in which they came. No program. | gavelref13's Tally: Most. -/
import Derived.Test.YtfmkegblhpnfcaaKX1
import Derived.Test.YtfmkegblhpnfcaaReg
import Derived.Great.BuildSlice
import Derived.Deep.AppendLies
import Derived.Test.YtfmkegblhpnfcaaWd
import Derived.Test.YtfmkegblhpnfcaaTab
import Derived.Test.YtfmkegblhpnfcaaHelp
import Derived.Test.YtfmkegblhpnfcaaReg2
import Derived.Sort.Row
import Derived.Sort.LotA
import Derived.Sort.LotB
import Derived.Sort.LotC
import Derived.Sort.LotD3
import Derived.Sort.WalkA
import Derived.Sort.WalkB3
import Derived.Sort.WalkC4
import Derived.Sort.WalkA6
import Derived.Lib.LazyBuf
import Derived.Laws.ResultCell
set_option linter.unusedSimpArgs false
set_option linter.unusedVariables false
set_option maxRecDepth 100000

namespace Go.Proofs.Ytfmkegblhpnfcaa
set_option maxRecDepth 100000
open Go.RowKit
def rcells (v : Tv) : List Value := .int .i64 v.k :: .int .i64 v.r :: .int .i64 (v.p : Nat) :: v.h.map by8
def RL (w : World) (A : Option Addr) (n : Nat) (l : List Tv) : Prop := Lst 35 rcells (fun _ v => v.h.length = 32) w A n l
/-- the document's tally at block g -/
def Rt (w : World) (S : List Nat) (g : Nat) (f c : Int) (T : List Tv) : Prop :=
  ∃ A d, S = g :: bk A ∧ Blk w g 47 #[.int .i64 f, .int .i64 c, .slice A T.length d] ∧ RL w A T.length T.reverse ∧ (∀ a, A = some a → a.block < w.heap.size)
theorem Rt.keep {w w' : World} {S R : List Nat} {g : Nat} {f c : Int} {T : List Tv} (h : Rt w S g f c T) (hf : Fr R w w') (hn : ∀ y ∈ S, ¬ y ∈ R) : Rt w' S g f c T := by
  obtain ⟨A, d, rfl, h1, h2, h3⟩ := h
  exact ⟨A, d, rfl, h1.keep hf (hn g (by simp)), Lst.keep h2 hf (fun a ha => hn _ (by simp [bk, ha])) (fun _ _ q => q), fun a ha => Nat.lt_of_lt_of_le (h3 a ha) hf.size⟩
theorem Rt.lt {w : World} {S : List Nat} {g : Nat} {f c : Int} {T : List Tv} (h : Rt w S g f c T) : ∀ y ∈ S, y < w.heap.size := by
  obtain ⟨A, d, rfl, h1, h2, h3⟩ := h
  intro y hy
  rcases List.mem_cons.1 hy with rfl | hy
  · exact h1.lt
  · cases A with
    | none => simp [bk] at hy
    | some a =>
      simp [bk] at hy
      rw [hy]
      exact h3 a rfl
theorem Rt.drew {w : World} {S : List Nat} {g : Nat} {f c : Int} {T : List Tv} (h : Rt w S g f c T) : Rt w.drew S g f c T := h
/-- where the votes lie -/
theorem RL.cell {w : World} {A : Option Addr} {n : Nat} {l : List Tv} (h : RL w A n l) {i : Nat} (hi : i < n) : ∃ ad v, A = some ad ∧ l[i]? = some v ∧ v.h.length = 32 ∧ w.cell? (ad.add (i * 35)) = some (.int .i64 v.k) ∧ w.cell? ⟨(ad.add (i * 35)).block, (ad.add (i * 35)).off + 1, none⟩ = some (.int .i64 v.r) ∧ w.cell? ⟨(ad.add (i * 35)).block, (ad.add (i * 35)).off + 2, none⟩ = some (.int .i64 (v.p : Nat)) ∧ w.rangeAt (ad.add (i * 35)).block ((ad.add (i * 35)).off + 3) (v.h.map by8) := by
  obtain ⟨ad, v, h1, h2, h3, h4, h5⟩ := Lst.at h hi
  have hadd : ∀ (a : Addr) (j : Nat), 0 < j → a.add j = ⟨a.block, a.off + j, none⟩ := fun a j hj => by
    unfold Addr.add
    rw [if_neg (by omega)]
  refine ⟨ad, v, h1, h2, h4, ?_, ?_, ?_, ?_⟩
  · have := h5 0 _ rfl
    rwa [add_add, Nat.add_zero] at this
  · have := h5 1 _ rfl
    rwa [hadd _ 1 (by omega)] at this
  · have := h5 2 _ rfl
    rwa [hadd _ 2 (by omega)] at this
  · intro j x hx
    have := h5 (3 + j) x (by unfold rcells; rw [show 3 + j = j + 1 + 1 + 1 by omega]; simpa using hx)
    rw [hadd _ (3 + j) (by omega)] at this
    rw [show (ad.add (i * 35)).off + 3 + j = (ad.add (i * 35)).off + (3 + j) by omega]
    exact this
theorem take_count {l : List Tv} {q : Nat} {v : Tv} (h : l[q]? = some v) (p : Tv → Bool) : (l.take (q + 1)).countP p = (l.take q).countP p + if p v = true then 1 else 0 := by
  rw [List.take_add_one, h, List.countP_append]
  simp
set_option maxHeartbeats 1000000 in
theorem rall_any (w : World) (S : List Nat) (g : Nat) (f c : Int) (T : List Tv) (h : Rt w S g f c T) (hT : T.length < 1048576) (k r : Int) :
    Calls Try.prog 30 #[.pointer (some ⟨g, 0, none⟩), .int .i64 k, .int .i64 r] w fun e w' => e = .returned (.int .i64 (cntA T k r : Nat)) ∧ w = w' := by
  obtain ⟨A, d, -, h1, h2, -⟩ := h
  have c2 : w.cell? ⟨g, 2, none⟩ = some (.slice A T.length d) := (h1.cell 2).trans rfl
  have HL := Lib.hid h2
  have HTL := Lib.hid hT
  obtain ⟨N, hN⟩ : ∃ N, N = T.length := ⟨_, rfl⟩
  obtain ⟨L, hLd⟩ : ∃ L, L = T.reverse := ⟨_, rfl⟩
  have HCE : Hid (cntA T k r = L.countP fun v => decide (v.k = k ∧ v.r = r)) := Lib.hid (by rw [hLd, List.countP_reverse]; rfl)
  have HLN : Hid (L.length = N) := Lib.hid (by rw [hLd, hN, List.length_reverse])
  rw [← hN] at c2 HL HTL
  rw [← hLd] at HL
  clear h1 h2 hN hLd hT
  generalize cntA T k r = res at *
  go_enter Try.func30, Try.ntmps30
  go_wp2
  go_loop [7, 14] (fun a i => ∃ (q n : Nat), q ≤ N ∧ i = .int .i64 q ∧ a = .int .i64 n ∧ n = (L.take q).countP fun v => decide (v.k = k ∧ v.r = r)) (fun _ i => N - (intOf i).toNat)
  case atStart => exact ⟨0, 0, by omega, rfl, rfl, by simp⟩
  case round =>
    obtain ⟨q, n, hq, rfl, rfl, hn⟩ := hrel
    have HNq := Lib.hid hn
    have HNB : Hid (n ≤ q) := Lib.hid (by rw [hn]; exact Nat.le_trans List.countP_le_length (by rw [List.length_take]; omega))
    clear hn
    by_cases hlt : q < N
    · have hn64 : (n : Int) < 1048576 := by have := HNB.out; have := HTL.out; omega
      have hq64 : (q : Int) < 1048576 := by have := HTL.out; omega
      have hN64 : (N : Int) ≤ 9223372036854775807 := by have := HTL.out; omega
      have hq0 : (0 : Int) ≤ q := by omega
      obtain ⟨ad, v, rfl, hv, _, ck, cr, _, _⟩ := HL.out.cell hlt
      have HTK := Lib.hid (take_count hv (fun v => decide (v.k = k ∧ v.r = r)))
      clear hv
      by_cases h1 : v.k = k
      · have b1 : (v.k == k) = true := by simpa using h1
        by_cases h2 : v.r = r
        · have b2 : (v.r == r) = true := by simpa using h2
          go_wp2
          go_round
          case rel => exact ⟨q + 1, n + 1, by omega, by go_num, by go_num, by rw [HTK.out, ← HNq.out]; simp [h1, h2]⟩
          case measure => simp [intOf]; omega
        · have b2 : (v.r == r) = false := by simpa using h2
          go_wp2
          go_round
          case rel => exact ⟨q + 1, n, by omega, by go_num, rfl, by rw [HTK.out, ← HNq.out]; simp [h2]⟩
          case measure => simp [intOf]; omega
      · have b1 : (v.k == k) = false := by simpa using h1
        go_wp2
        go_round
        case rel => exact ⟨q + 1, n, by omega, by go_num, rfl, by rw [HTK.out, ← HNq.out]; simp [h1]⟩
        case measure => simp [intOf]; omega
    · have hqe : q = N := by omega
      have hd : decide (q < N) = false := decide_eq_false hlt
      go_wp2
      go_ret
      exact ⟨by rw [HCE.out, HNq.out, hqe, List.take_of_length_le (Nat.le_of_eq HLN.out)]; rfl, rfl⟩
end Go.Proofs.Ytfmkegblhpnfcaa

namespace Go.Proofs.Ytfmkegblhpnfcaa
open Go.RowKit
set_option maxRecDepth 100000
theorem exec_eql {P : Program} {ev : Operand → Value} {o : Oper} {w : World} (ty r : TypeId) (x y : Operand) (ho : o.op = .binOp .eql ty x y r) (C D : Array Value) (hx : ev x = .agg C) (hy : ev y = .agg D) (b : Bool)
    (hg : P.eqGuardType P.depth ty = false) (hq : (Op.equalIn 10000 ty (.agg C) (.agg D)).run P w = .ok b w) : (execOp ev o).run P w = .ok (.value (.bool b)) w := by
  have hq' : (Op.equal ty (.agg C) (.agg D)).run P w = .ok b w := hq
  unfold execOp
  simp only [ho, hx, hy]
  simp [eqGuard, binOp, hg, hq', Result.andThen]
theorem eql_at {P : Program} {l : List Oper} {Q : Exit → Act → World → Prop} {md : Region.Mode} {S : World → Prop} {fuel : Nat} {listed : Array Bool} {a : Act} {w : World}
    {i : Nat} {oi : Oper} (hi : nthOp l i = some oi) (ht : takeOk md l.toArray listed i = true) (hw : Region.wanted oi (yielded l.toArray a.tmps) = true)
    (ty r : TypeId) (x y : Operand) (ho : oi.op = .binOp .eql ty x y r) (C D : Array Value) (hx : a.eval x = .agg C) (hy : a.eval y = .agg D) (b : Bool) (hg : P.eqGuardType P.depth ty = false)
    (hq : ∀ w, (Op.equalIn 10000 ty (.agg C) (.agg D)).run P w = .ok b w)
    (hQ : ∀ c a w, Q (.panic c) (a.put oi.dst (.bool b)) w → Q (.panic c) a w) (hS : S w)
    (h : wpAnyH P md l.toArray Q S fuel (listed.setIfInBounds i true) (a.put oi.dst (.bool b)) w) : wpAnyH P md l.toArray Q S (fuel + 1) listed a w :=
  run_at hi ht hw hQ hS (fun _ _ => exec_eql ty r x y ho C D hx hy b hg (hq _)) h
theorem exec_neq {P : Program} {ev : Operand → Value} {o : Oper} {w : World} (ty r : TypeId) (x y : Operand) (ho : o.op = .binOp .neq ty x y r) (C D : Array Value) (hx : ev x = .agg C) (hy : ev y = .agg D) (b : Bool)
    (hg : P.eqGuardType P.depth ty = false) (hq : (Op.equalIn 10000 ty (.agg C) (.agg D)).run P w = .ok b w) : (execOp ev o).run P w = .ok (.value (.bool (!b))) w := by
  have hq' : (Op.equal ty (.agg C) (.agg D)).run P w = .ok b w := hq
  unfold execOp
  simp only [ho, hx, hy]
  simp [eqGuard, binOp, hg, hq', Result.andThen]
theorem neq_at {P : Program} {l : List Oper} {Q : Exit → Act → World → Prop} {md : Region.Mode} {S : World → Prop} {fuel : Nat} {listed : Array Bool} {a : Act} {w : World}
    {i : Nat} {oi : Oper} (hi : nthOp l i = some oi) (ht : takeOk md l.toArray listed i = true) (hw : Region.wanted oi (yielded l.toArray a.tmps) = true)
    (ty r : TypeId) (x y : Operand) (ho : oi.op = .binOp .neq ty x y r) (C D : Array Value) (hx : a.eval x = .agg C) (hy : a.eval y = .agg D) (b : Bool) (hg : P.eqGuardType P.depth ty = false)
    (hq : ∀ w, (Op.equalIn 10000 ty (.agg C) (.agg D)).run P w = .ok b w)
    (hQ : ∀ c a w, Q (.panic c) (a.put oi.dst (.bool (!b))) w → Q (.panic c) a w) (hS : S w)
    (h : wpAnyH P md l.toArray Q S fuel (listed.setIfInBounds i true) (a.put oi.dst (.bool (!b))) w) : wpAnyH P md l.toArray Q S (fuel + 1) listed a w :=
  run_at hi ht hw hQ hS (fun _ _ => exec_neq ty r x y ho C D hx hy b hg (hq _)) h
end Go.Proofs.Ytfmkegblhpnfcaa

namespace Go.Proofs.Ytfmkegblhpnfcaa
set_option maxRecDepth 100000
open Go.RowKit
theorem RL.keep {w w' : World} {A : Option Addr} {n : Nat} {l : List Tv} (h : RL w A n l) (hf : Fr [] w w') : RL w' A n l :=
  Lst.keep h hf (fun a ha => by simp) (fun _ _ q => q)
set_option maxHeartbeats 2000000 in
theorem rfor_any (w : World) (S : List Nat) (g : Nat) (f c : Int) (T : List Tv) (h : Rt w S g f c T) (hT : T.length < 1048576) (k r : Int) (hs : List UInt8) (hh : hs.length = 32) :
    Calls Try.prog 29 #[.pointer (some ⟨g, 0, none⟩), .int .i64 k, .int .i64 r, .agg (hs.map by8).toArray] w fun e w' => e = .returned (.int .i64 (cntH T k r hs : Nat)) ∧ Fr [] w w' := by
  obtain ⟨wa, hwa⟩ : ∃ wa, wa = w.alloc (Obj.cells (hs.map by8).toArray 30) := ⟨_, rfl⟩
  have hf0 : Fr [] w wa := by rw [hwa]; exact (Fr.refl [] w).alloc _
  have hb1 : Blk wa w.heap.size 30 (hs.map by8).toArray := by rw [hwa]; exact Blk.new _ _ _
  obtain ⟨A, d, -, h1, h2, -⟩ := h.keep hf0 (by simp)
  have HC1 : Hid (wa.cell? ⟨g, 2, none⟩ = some (.slice A T.length d)) := Lib.hid ((h1.cell 2).trans rfl)
  have HL := Lib.hid h2
  have HTL := Lib.hid hT
  have HRR := Lib.hid hb1.range
  have HWA := Lib.hid hwa
  have HF0 := Lib.hid hf0
  have HH := Lib.hid hh
  obtain ⟨N, hN⟩ : ∃ N, N = T.length := ⟨_, rfl⟩
  obtain ⟨L, hLd⟩ : ∃ L, L = T.reverse := ⟨_, rfl⟩
  have HCE : Hid (cntH T k r hs = L.countP fun v => decide (v.k = k ∧ v.r = r ∧ v.h = hs)) := Lib.hid (by rw [hLd, List.countP_reverse]; rfl)
  have HLN : Hid (L.length = N) := Lib.hid (by rw [hLd, hN, List.length_reverse])
  rw [← hN] at HC1 HL HTL
  rw [← hLd] at HL
  clear h h1 h2 hN hLd hT hwa hf0 hb1 hh
  generalize cntH T k r hs = res at *
  generalize hgb : w.heap.size = gb at *
  go_enter Try.func29, Try.ntmps29
  go_upto_region 1 with (fail)
  change Code.wp _ _ _ _ (w.alloc (Obj.cells (hs.map by8).toArray 30))
  rw [← HWA.out]
  have c1 := HC1.out
  clear hgb
  go_wp2_with fail
  go_loopw [9, 16] (fun a i wr => ∃ (q n : Nat), q ≤ N ∧ i = .int .i64 q ∧ a = .int .i64 n ∧ n = ((L.take q).countP fun v => decide (v.k = k ∧ v.r = r ∧ v.h = hs)) ∧ Hid (Fr [] wa wr)) (fun _ i _ => N - (intOf i).toNat)
  case atStart => exact ⟨0, 0, by omega, rfl, rfl, by simp, Lib.hid (Fr.refl _ _)⟩
  case round =>
    obtain ⟨q, n, hq, rfl, rfl, hn, HF⟩ := hrel
    rename World => wr
    clear c1
    have HNq := Lib.hid hn
    have HNB : Hid (n ≤ q) := Lib.hid (by rw [hn]; exact Nat.le_trans List.countP_le_length (by rw [List.length_take]; omega))
    clear hn
    have hn64 : (n : Int) < 1048576 := by have := HNB.out; have := HTL.out; omega
    by_cases hlt : q < N
    · have hq64 : (q : Int) < 1048576 := by have := HTL.out; omega
      have hN64 : (N : Int) ≤ 9223372036854775807 := by have := HTL.out; omega
      have hq0 : (0 : Int) ≤ q := by omega
      have c1 := HF.out.cell HC1.out (by simp)
      obtain ⟨ad, v, hA, hv, hvl, ck, cr, _, ch⟩ := (HL.out.keep HF.out).cell hlt
      subst hA
      have HCH := Lib.hid ch
      have HVL : Hid ((v.h.map by8).length = 32) := Lib.hid (by rw [List.length_map]; exact hvl)
      have HSL : Hid ((hs.map by8).length = 32) := Lib.hid (by rw [List.length_map]; exact HH.out)
      have HQH : Hid (∀ W, (Op.equalIn 10000 30 (.agg (v.h.map by8).toArray) (.agg (hs.map by8).toArray)).run Try.prog W = .ok (decide (v.h = hs)) W) := Lib.hid (fun W => eql_hash v.h hs hvl HH.out 9998 W)
      have HTK := Lib.hid (take_count hv (fun v => decide (v.k = k ∧ v.r = r ∧ v.h = hs)))
      have HRW := Lib.hid (HF.out.range HRR.out (by simp))
      clear hv hvl ch
      go_upto_region 5 with (fail)
      by_cases h1 : v.k = k
      · have b1 : (v.k == k) = true := by simpa using h1
        by_cases h2 : v.r = r
        · have b2 : (v.r == r) = true := by simpa using h2
          by_cases h3 : v.h = hs
          · have HT3 : Hid (n + 1 = (L.take (q + 1)).countP fun v => decide (v.k = k ∧ v.r = r ∧ v.h = hs)) := Lib.hid (by rw [HTK.out, ← HNq.out]; simp [h1, h2, h3])
            have b3 : decide (v.h = hs) = true := decide_eq_true h3
            rw [b3] at HQH
            clear h1 h2 h3 b3
            refine wp_region_held_drew (S := Fr [] wr) (by kernel_rfl) (Fr.drew (Fr.refl _ wr)) (fun hHeld => ?_)
            refine run_at (i := 0) (v := ?_) rfl (by kernel_rfl) (by rfl) (fun _ _ _ h => h) hHeld (fun w1 hw1 => ?_) ?_
            rotate_left 1
            · skip
              go_simp
              (try (first | with_reducible rfl | (apply And.intro <;> rfl)))
            simp only [Act.put, List.setIfInBounds_toArray, List.set_cons_zero, List.set_cons_succ]
            refine run_at (i := 1) (v := ?_) rfl (by kernel_rfl) (by rfl) (fun _ _ _ h => h) hHeld (fun w1 hw1 => ?_) ?_
            rotate_left 1
            · skip
              go_simp
              (try (first | with_reducible rfl | (apply And.intro <;> rfl)))
            simp only [Act.put, List.setIfInBounds_toArray, List.set_cons_zero, List.set_cons_succ]
            refine run_at (i := 2) (v := ?_) rfl (by kernel_rfl) (by rfl) (fun _ _ _ h => h) hHeld (fun w1 hw1 => ?_) ?_
            rotate_left 1
            · skip
              go_simp
              (try (first | with_reducible rfl | (apply And.intro <;> rfl)))
            simp only [Act.put, List.setIfInBounds_toArray, List.set_cons_zero, List.set_cons_succ]
            refine run_at (i := 3) (v := ?_) rfl (by kernel_rfl) (by rfl) (fun _ _ _ h => h) hHeld (fun w1 hw1 => ?_) ?_
            rotate_left 1
            · skip
              have hcw0 := hw1.cell (c1) (by first | (simp; done) | exact HNS.out | exact HNW.out | (intro hm; have hlt := HSB.out _ hm; (try dsimp only at hlt); omega))
              go_simp
              (try (first | with_reducible rfl | (apply And.intro <;> rfl)))
            simp only [Act.put, List.setIfInBounds_toArray, List.set_cons_zero, List.set_cons_succ]
            refine run_at (i := 4) (v := ?_) rfl (by kernel_rfl) (by rfl) (fun _ _ _ h => h) hHeld (fun w1 hw1 => ?_) ?_
            rotate_left 1
            · skip
              go_simp
              (try (first | with_reducible rfl | (apply And.intro <;> rfl)))
            simp only [Act.put, List.setIfInBounds_toArray, List.set_cons_zero, List.set_cons_succ]
            refine run_at (i := 5) (v := ?_) rfl (by kernel_rfl) (by rfl) (fun _ _ _ h => h) hHeld (fun w1 hw1 => ?_) ?_
            rotate_left 1
            · skip
              go_simp
              (try (first | with_reducible rfl | (apply And.intro <;> rfl)))
            simp only [Act.put, List.setIfInBounds_toArray, List.set_cons_zero, List.set_cons_succ]
            refine run_at (i := 6) (v := ?_) rfl (by kernel_rfl) (by rfl) (fun _ _ _ h => h) hHeld (fun w1 hw1 => ?_) ?_
            rotate_left 1
            · skip
              go_simp
              (try (first | with_reducible rfl | (apply And.intro <;> rfl)))
            simp only [Act.put, List.setIfInBounds_toArray, List.set_cons_zero, List.set_cons_succ]
            refine run_at (i := 7) (v := ?_) rfl (by kernel_rfl) (by rfl) (fun _ _ _ h => h) hHeld (fun w1 hw1 => ?_) ?_
            rotate_left 1
            · skip
              have hcw0 := hw1.cell (ck) (by first | (simp; done) | exact HNS.out | exact HNW.out | (intro hm; have hlt := HSB.out _ hm; (try dsimp only at hlt); omega))
              go_simp
              (try (first | with_reducible rfl | (apply And.intro <;> rfl)))
            simp only [Act.put, List.setIfInBounds_toArray, List.set_cons_zero, List.set_cons_succ]
            refine run_at (i := 8) (v := ?_) rfl (by kernel_rfl) (by rfl) (fun _ _ _ h => h) hHeld (fun w1 hw1 => ?_) ?_
            rotate_left 1
            · skip
              go_simp
              (try (first | with_reducible rfl | (apply And.intro <;> rfl)))
            simp only [Act.put, List.setIfInBounds_toArray, List.set_cons_zero, List.set_cons_succ]
            refine run_at (i := 9) (v := ?_) rfl (by kernel_rfl) (by rfl) (fun _ _ _ h => h) hHeld (fun w1 hw1 => ?_) ?_
            rotate_left 1
            · skip
              go_simp
              (try (first | with_reducible rfl | (apply And.intro <;> rfl)))
            simp only [Act.put, List.setIfInBounds_toArray, List.set_cons_zero, List.set_cons_succ]
            refine run_at (i := 10) (v := ?_) rfl (by kernel_rfl) (by rfl) (fun _ _ _ h => h) hHeld (fun w1 hw1 => ?_) ?_
            rotate_left 1
            · skip
              go_simp
              (try (first | with_reducible rfl | (apply And.intro <;> rfl)))
            simp only [Act.put, List.setIfInBounds_toArray, List.set_cons_zero, List.set_cons_succ]
            refine run_at (i := 11) (v := ?_) rfl (by kernel_rfl) (by rfl) (fun _ _ _ h => h) hHeld (fun w1 hw1 => ?_) ?_
            rotate_left 1
            · skip
              go_simp
              (try (first | with_reducible rfl | (apply And.intro <;> rfl)))
            simp only [Act.put, List.setIfInBounds_toArray, List.set_cons_zero, List.set_cons_succ]
            refine run_at (i := 12) (v := ?_) rfl (by kernel_rfl) (by rfl) (fun _ _ _ h => h) hHeld (fun w1 hw1 => ?_) ?_
            rotate_left 1
            · skip
              go_simp
              (try (first | with_reducible rfl | (apply And.intro <;> rfl)))
            simp only [Act.put, List.setIfInBounds_toArray, List.set_cons_zero, List.set_cons_succ]
            refine run_at (i := 13) (v := ?_) rfl (by kernel_rfl) (by rfl) (fun _ _ _ h => h) hHeld (fun w1 hw1 => ?_) ?_
            rotate_left 1
            · skip
              go_simp
              (try (first | with_reducible rfl | (apply And.intro <;> rfl)))
            simp only [Act.put, List.setIfInBounds_toArray, List.set_cons_zero, List.set_cons_succ]
            refine run_at (i := 14) (v := ?_) rfl (by kernel_rfl) (by rfl) (fun _ _ _ h => h) hHeld (fun w1 hw1 => ?_) ?_
            rotate_left 1
            · skip
              have hcw0 := hw1.cell (c1) (by first | (simp; done) | exact HNS.out | exact HNW.out | (intro hm; have hlt := HSB.out _ hm; (try dsimp only at hlt); omega))
              go_simp
              (try (first | with_reducible rfl | (apply And.intro <;> rfl)))
            simp only [Act.put, List.setIfInBounds_toArray, List.set_cons_zero, List.set_cons_succ]
            refine run_at (i := 15) (v := ?_) rfl (by kernel_rfl) (by rfl) (fun _ _ _ h => h) hHeld (fun w1 hw1 => ?_) ?_
            rotate_left 1
            · skip
              go_simp
              (try (first | with_reducible rfl | (apply And.intro <;> rfl)))
            simp only [Act.put, List.setIfInBounds_toArray, List.set_cons_zero, List.set_cons_succ]
            refine run_at (i := 16) (v := ?_) rfl (by kernel_rfl) (by rfl) (fun _ _ _ h => h) hHeld (fun w1 hw1 => ?_) ?_
            rotate_left 1
            · skip
              go_simp
              (try (first | with_reducible rfl | (apply And.intro <;> rfl)))
            simp only [Act.put, List.setIfInBounds_toArray, List.set_cons_zero, List.set_cons_succ]
            refine run_at (i := 17) (v := ?_) rfl (by kernel_rfl) (by rfl) (fun _ _ _ h => h) hHeld (fun w1 hw1 => ?_) ?_
            rotate_left 1
            · skip
              go_simp
              (try (first | with_reducible rfl | (apply And.intro <;> rfl)))
            simp only [Act.put, List.setIfInBounds_toArray, List.set_cons_zero, List.set_cons_succ]
            refine run_at (i := 18) (v := ?_) rfl (by kernel_rfl) (by rfl) (fun _ _ _ h => h) hHeld (fun w1 hw1 => ?_) ?_
            rotate_left 1
            · skip
              have hcw0 := hw1.cell (cr) (by first | (simp; done) | exact HNS.out | exact HNW.out | (intro hm; have hlt := HSB.out _ hm; (try dsimp only at hlt); omega))
              go_simp
              (try (first | with_reducible rfl | (apply And.intro <;> rfl)))
            simp only [Act.put, List.setIfInBounds_toArray, List.set_cons_zero, List.set_cons_succ]
            refine run_at (i := 19) (v := ?_) rfl (by kernel_rfl) (by rfl) (fun _ _ _ h => h) hHeld (fun w1 hw1 => ?_) ?_
            rotate_left 1
            · skip
              go_simp
              (try (first | with_reducible rfl | (apply And.intro <;> rfl)))
            simp only [Act.put, List.setIfInBounds_toArray, List.set_cons_zero, List.set_cons_succ]
            refine run_at (i := 20) (v := ?_) rfl (by kernel_rfl) (by rfl) (fun _ _ _ h => h) hHeld (fun w1 hw1 => ?_) ?_
            rotate_left 1
            · skip
              go_simp
              (try (first | with_reducible rfl | (apply And.intro <;> rfl)))
            simp only [Act.put, List.setIfInBounds_toArray, List.set_cons_zero, List.set_cons_succ]
            refine run_at (i := 21) (v := ?_) rfl (by kernel_rfl) (by rfl) (fun _ _ _ h => h) hHeld (fun w1 hw1 => ?_) ?_
            rotate_left 1
            · skip
              go_simp
              (try (first | with_reducible rfl | (apply And.intro <;> rfl)))
            simp only [Act.put, List.setIfInBounds_toArray, List.set_cons_zero, List.set_cons_succ]
            refine run_at (i := 22) (v := ?_) rfl (by kernel_rfl) (by rfl) (fun _ _ _ h => h) hHeld (fun w1 hw1 => ?_) ?_
            rotate_left 1
            · skip
              go_simp
              (try (first | with_reducible rfl | (apply And.intro <;> rfl)))
            simp only [Act.put, List.setIfInBounds_toArray, List.set_cons_zero, List.set_cons_succ]
            refine run_at (i := 23) (v := ?_) rfl (by kernel_rfl) (by rfl) (fun _ _ _ h => h) hHeld (fun w1 hw1 => ?_) ?_
            rotate_left 1
            · skip
              go_simp
              (try (first | with_reducible rfl | (apply And.intro <;> rfl)))
            simp only [Act.put, List.setIfInBounds_toArray, List.set_cons_zero, List.set_cons_succ]
            refine run_at (i := 24) (v := ?_) rfl (by kernel_rfl) (by rfl) (fun _ _ _ h => h) hHeld (fun w1 hw1 => ?_) ?_
            rotate_left 1
            · skip
              go_simp
              (try (first | with_reducible rfl | (apply And.intro <;> rfl)))
            simp only [Act.put, List.setIfInBounds_toArray, List.set_cons_zero, List.set_cons_succ]
            refine run_at (i := 25) (v := ?_) rfl (by kernel_rfl) (by rfl) (fun _ _ _ h => h) hHeld (fun w1 hw1 => ?_) ?_
            rotate_left 1
            · skip
              go_simp
              (try (first | with_reducible rfl | (apply And.intro <;> rfl)))
            simp only [Act.put, List.setIfInBounds_toArray, List.set_cons_zero, List.set_cons_succ]
            refine run_at (i := 26) (v := ?_) rfl (by kernel_rfl) (by rfl) (fun _ _ _ h => h) hHeld (fun w1 hw1 => ?_) ?_
            rotate_left 1
            · skip
              have hcw0 := hw1.cell (c1) (by first | (simp; done) | exact HNS.out | exact HNW.out | (intro hm; have hlt := HSB.out _ hm; (try dsimp only at hlt); omega))
              go_simp
              (try (first | with_reducible rfl | (apply And.intro <;> rfl)))
            simp only [Act.put, List.setIfInBounds_toArray, List.set_cons_zero, List.set_cons_succ]
            refine run_at (i := 27) (v := ?_) rfl (by kernel_rfl) (by rfl) (fun _ _ _ h => h) hHeld (fun w1 hw1 => ?_) ?_
            rotate_left 1
            · skip
              go_simp
              (try (first | with_reducible rfl | (apply And.intro <;> rfl)))
            simp only [Act.put, List.setIfInBounds_toArray, List.set_cons_zero, List.set_cons_succ]
            refine run_at (i := 28) (v := ?_) rfl (by kernel_rfl) (by rfl) (fun _ _ _ h => h) hHeld (fun w1 hw1 => ?_) ?_
            rotate_left 1
            · skip
              go_simp
              (try (first | with_reducible rfl | (apply And.intro <;> rfl)))
            simp only [Act.put, List.setIfInBounds_toArray, List.set_cons_zero, List.set_cons_succ]
            refine run_at (i := 29) (v := ?_) rfl (by kernel_rfl) (by rfl) (fun _ _ _ h => h) hHeld (fun w1 hw1 => ?_) ?_
            rotate_left 1
            · skip
              go_simp
              (try (first | with_reducible rfl | (apply And.intro <;> rfl)))
            simp only [Act.put, List.setIfInBounds_toArray, List.set_cons_zero, List.set_cons_succ]
            refine row_at (i := 30) rfl (by kernel_rfl) (by rfl) _ _ rfl _ _ rfl _ (fun w1 hw1 => hw1.range (HCH.out) (by first | (simp; done) | exact HNS.out | exact HNW.out | (intro hm; have hlt := HSB.out _ hm; (try dsimp only at hlt); omega))) (row_hash.of HVL.out) (fun _ _ _ h => h) hHeld ?_
            simp only [Act.put, List.setIfInBounds_toArray, List.set_cons_zero, List.set_cons_succ]
            refine row_at (i := 31) rfl (by kernel_rfl) (by rfl) _ _ rfl _ _ rfl _ (fun w1 hw1 => hw1.range (HRW.out) (by first | (simp; done) | exact HNS.out | exact HNW.out | (intro hm; have hlt := HSB.out _ hm; (try dsimp only at hlt); omega))) (row_hash.of HSL.out) (fun _ _ _ h => h) hHeld ?_
            simp only [Act.put, List.setIfInBounds_toArray, List.set_cons_zero, List.set_cons_succ]
            refine eql_at (i := 32) rfl (by kernel_rfl) (by rfl) _ _ _ _ rfl _ _ rfl rfl _ (by kernel_rfl) (fun W => HQH.out W) (fun _ _ _ h => h) hHeld ?_
            simp only [Act.put, List.setIfInBounds_toArray, List.set_cons_zero, List.set_cons_succ]
            refine run_at (i := 33) (v := ?_) rfl (by kernel_rfl) (by rfl) (fun _ _ _ h => h) hHeld (fun w1 hw1 => ?_) ?_
            rotate_left 1
            · skip
              go_simp
              (try (first | with_reducible rfl | (apply And.intro <;> rfl)))
            simp only [Act.put, List.setIfInBounds_toArray, List.set_cons_zero, List.set_cons_succ]
            refine wpAnyH_done (by kernel_rfl) ?_ _
            have HFN := Lib.hid (HF.out.and hHeld (by simp))
            clear hHeld
            go_wp2_with fail
            go_roundw
            case rel => exact ⟨q + 1, n + 1, by omega, by go_num, by go_num, HT3.out, HFN⟩
            case measure => simp [intOf]; omega
          · have HT3 : Hid (n = (L.take (q + 1)).countP fun v => decide (v.k = k ∧ v.r = r ∧ v.h = hs)) := Lib.hid (by rw [HTK.out, ← HNq.out]; simp [h3])
            have b3 : decide (v.h = hs) = false := decide_eq_false h3
            rw [b3] at HQH
            clear h1 h2 h3 b3
            refine wp_region_held_drew (S := Fr [] wr) (by kernel_rfl) (Fr.drew (Fr.refl _ wr)) (fun hHeld => ?_)
            refine run_at (i := 0) (v := ?_) rfl (by kernel_rfl) (by rfl) (fun _ _ _ h => h) hHeld (fun w1 hw1 => ?_) ?_
            rotate_left 1
            · skip
              go_simp
              (try (first | with_reducible rfl | (apply And.intro <;> rfl)))
            simp only [Act.put, List.setIfInBounds_toArray, List.set_cons_zero, List.set_cons_succ]
            refine run_at (i := 1) (v := ?_) rfl (by kernel_rfl) (by rfl) (fun _ _ _ h => h) hHeld (fun w1 hw1 => ?_) ?_
            rotate_left 1
            · skip
              go_simp
              (try (first | with_reducible rfl | (apply And.intro <;> rfl)))
            simp only [Act.put, List.setIfInBounds_toArray, List.set_cons_zero, List.set_cons_succ]
            refine run_at (i := 2) (v := ?_) rfl (by kernel_rfl) (by rfl) (fun _ _ _ h => h) hHeld (fun w1 hw1 => ?_) ?_
            rotate_left 1
            · skip
              go_simp
              (try (first | with_reducible rfl | (apply And.intro <;> rfl)))
            simp only [Act.put, List.setIfInBounds_toArray, List.set_cons_zero, List.set_cons_succ]
            refine run_at (i := 3) (v := ?_) rfl (by kernel_rfl) (by rfl) (fun _ _ _ h => h) hHeld (fun w1 hw1 => ?_) ?_
            rotate_left 1
            · skip
              have hcw0 := hw1.cell (c1) (by first | (simp; done) | exact HNS.out | exact HNW.out | (intro hm; have hlt := HSB.out _ hm; (try dsimp only at hlt); omega))
              go_simp
              (try (first | with_reducible rfl | (apply And.intro <;> rfl)))
            simp only [Act.put, List.setIfInBounds_toArray, List.set_cons_zero, List.set_cons_succ]
            refine run_at (i := 4) (v := ?_) rfl (by kernel_rfl) (by rfl) (fun _ _ _ h => h) hHeld (fun w1 hw1 => ?_) ?_
            rotate_left 1
            · skip
              go_simp
              (try (first | with_reducible rfl | (apply And.intro <;> rfl)))
            simp only [Act.put, List.setIfInBounds_toArray, List.set_cons_zero, List.set_cons_succ]
            refine run_at (i := 5) (v := ?_) rfl (by kernel_rfl) (by rfl) (fun _ _ _ h => h) hHeld (fun w1 hw1 => ?_) ?_
            rotate_left 1
            · skip
              go_simp
              (try (first | with_reducible rfl | (apply And.intro <;> rfl)))
            simp only [Act.put, List.setIfInBounds_toArray, List.set_cons_zero, List.set_cons_succ]
            refine run_at (i := 6) (v := ?_) rfl (by kernel_rfl) (by rfl) (fun _ _ _ h => h) hHeld (fun w1 hw1 => ?_) ?_
            rotate_left 1
            · skip
              go_simp
              (try (first | with_reducible rfl | (apply And.intro <;> rfl)))
            simp only [Act.put, List.setIfInBounds_toArray, List.set_cons_zero, List.set_cons_succ]
            refine run_at (i := 7) (v := ?_) rfl (by kernel_rfl) (by rfl) (fun _ _ _ h => h) hHeld (fun w1 hw1 => ?_) ?_
            rotate_left 1
            · skip
              have hcw0 := hw1.cell (ck) (by first | (simp; done) | exact HNS.out | exact HNW.out | (intro hm; have hlt := HSB.out _ hm; (try dsimp only at hlt); omega))
              go_simp
              (try (first | with_reducible rfl | (apply And.intro <;> rfl)))
            simp only [Act.put, List.setIfInBounds_toArray, List.set_cons_zero, List.set_cons_succ]
            refine run_at (i := 8) (v := ?_) rfl (by kernel_rfl) (by rfl) (fun _ _ _ h => h) hHeld (fun w1 hw1 => ?_) ?_
            rotate_left 1
            · skip
              go_simp
              (try (first | with_reducible rfl | (apply And.intro <;> rfl)))
            simp only [Act.put, List.setIfInBounds_toArray, List.set_cons_zero, List.set_cons_succ]
            refine run_at (i := 9) (v := ?_) rfl (by kernel_rfl) (by rfl) (fun _ _ _ h => h) hHeld (fun w1 hw1 => ?_) ?_
            rotate_left 1
            · skip
              go_simp
              (try (first | with_reducible rfl | (apply And.intro <;> rfl)))
            simp only [Act.put, List.setIfInBounds_toArray, List.set_cons_zero, List.set_cons_succ]
            refine run_at (i := 10) (v := ?_) rfl (by kernel_rfl) (by rfl) (fun _ _ _ h => h) hHeld (fun w1 hw1 => ?_) ?_
            rotate_left 1
            · skip
              go_simp
              (try (first | with_reducible rfl | (apply And.intro <;> rfl)))
            simp only [Act.put, List.setIfInBounds_toArray, List.set_cons_zero, List.set_cons_succ]
            refine run_at (i := 11) (v := ?_) rfl (by kernel_rfl) (by rfl) (fun _ _ _ h => h) hHeld (fun w1 hw1 => ?_) ?_
            rotate_left 1
            · skip
              go_simp
              (try (first | with_reducible rfl | (apply And.intro <;> rfl)))
            simp only [Act.put, List.setIfInBounds_toArray, List.set_cons_zero, List.set_cons_succ]
            refine run_at (i := 12) (v := ?_) rfl (by kernel_rfl) (by rfl) (fun _ _ _ h => h) hHeld (fun w1 hw1 => ?_) ?_
            rotate_left 1
            · skip
              go_simp
              (try (first | with_reducible rfl | (apply And.intro <;> rfl)))
            simp only [Act.put, List.setIfInBounds_toArray, List.set_cons_zero, List.set_cons_succ]
            refine run_at (i := 13) (v := ?_) rfl (by kernel_rfl) (by rfl) (fun _ _ _ h => h) hHeld (fun w1 hw1 => ?_) ?_
            rotate_left 1
            · skip
              go_simp
              (try (first | with_reducible rfl | (apply And.intro <;> rfl)))
            simp only [Act.put, List.setIfInBounds_toArray, List.set_cons_zero, List.set_cons_succ]
            refine run_at (i := 14) (v := ?_) rfl (by kernel_rfl) (by rfl) (fun _ _ _ h => h) hHeld (fun w1 hw1 => ?_) ?_
            rotate_left 1
            · skip
              have hcw0 := hw1.cell (c1) (by first | (simp; done) | exact HNS.out | exact HNW.out | (intro hm; have hlt := HSB.out _ hm; (try dsimp only at hlt); omega))
              go_simp
              (try (first | with_reducible rfl | (apply And.intro <;> rfl)))
            simp only [Act.put, List.setIfInBounds_toArray, List.set_cons_zero, List.set_cons_succ]
            refine run_at (i := 15) (v := ?_) rfl (by kernel_rfl) (by rfl) (fun _ _ _ h => h) hHeld (fun w1 hw1 => ?_) ?_
            rotate_left 1
            · skip
              go_simp
              (try (first | with_reducible rfl | (apply And.intro <;> rfl)))
            simp only [Act.put, List.setIfInBounds_toArray, List.set_cons_zero, List.set_cons_succ]
            refine run_at (i := 16) (v := ?_) rfl (by kernel_rfl) (by rfl) (fun _ _ _ h => h) hHeld (fun w1 hw1 => ?_) ?_
            rotate_left 1
            · skip
              go_simp
              (try (first | with_reducible rfl | (apply And.intro <;> rfl)))
            simp only [Act.put, List.setIfInBounds_toArray, List.set_cons_zero, List.set_cons_succ]
            refine run_at (i := 17) (v := ?_) rfl (by kernel_rfl) (by rfl) (fun _ _ _ h => h) hHeld (fun w1 hw1 => ?_) ?_
            rotate_left 1
            · skip
              go_simp
              (try (first | with_reducible rfl | (apply And.intro <;> rfl)))
            simp only [Act.put, List.setIfInBounds_toArray, List.set_cons_zero, List.set_cons_succ]
            refine run_at (i := 18) (v := ?_) rfl (by kernel_rfl) (by rfl) (fun _ _ _ h => h) hHeld (fun w1 hw1 => ?_) ?_
            rotate_left 1
            · skip
              have hcw0 := hw1.cell (cr) (by first | (simp; done) | exact HNS.out | exact HNW.out | (intro hm; have hlt := HSB.out _ hm; (try dsimp only at hlt); omega))
              go_simp
              (try (first | with_reducible rfl | (apply And.intro <;> rfl)))
            simp only [Act.put, List.setIfInBounds_toArray, List.set_cons_zero, List.set_cons_succ]
            refine run_at (i := 19) (v := ?_) rfl (by kernel_rfl) (by rfl) (fun _ _ _ h => h) hHeld (fun w1 hw1 => ?_) ?_
            rotate_left 1
            · skip
              go_simp
              (try (first | with_reducible rfl | (apply And.intro <;> rfl)))
            simp only [Act.put, List.setIfInBounds_toArray, List.set_cons_zero, List.set_cons_succ]
            refine run_at (i := 20) (v := ?_) rfl (by kernel_rfl) (by rfl) (fun _ _ _ h => h) hHeld (fun w1 hw1 => ?_) ?_
            rotate_left 1
            · skip
              go_simp
              (try (first | with_reducible rfl | (apply And.intro <;> rfl)))
            simp only [Act.put, List.setIfInBounds_toArray, List.set_cons_zero, List.set_cons_succ]
            refine run_at (i := 21) (v := ?_) rfl (by kernel_rfl) (by rfl) (fun _ _ _ h => h) hHeld (fun w1 hw1 => ?_) ?_
            rotate_left 1
            · skip
              go_simp
              (try (first | with_reducible rfl | (apply And.intro <;> rfl)))
            simp only [Act.put, List.setIfInBounds_toArray, List.set_cons_zero, List.set_cons_succ]
            refine run_at (i := 22) (v := ?_) rfl (by kernel_rfl) (by rfl) (fun _ _ _ h => h) hHeld (fun w1 hw1 => ?_) ?_
            rotate_left 1
            · skip
              go_simp
              (try (first | with_reducible rfl | (apply And.intro <;> rfl)))
            simp only [Act.put, List.setIfInBounds_toArray, List.set_cons_zero, List.set_cons_succ]
            refine run_at (i := 23) (v := ?_) rfl (by kernel_rfl) (by rfl) (fun _ _ _ h => h) hHeld (fun w1 hw1 => ?_) ?_
            rotate_left 1
            · skip
              go_simp
              (try (first | with_reducible rfl | (apply And.intro <;> rfl)))
            simp only [Act.put, List.setIfInBounds_toArray, List.set_cons_zero, List.set_cons_succ]
            refine run_at (i := 24) (v := ?_) rfl (by kernel_rfl) (by rfl) (fun _ _ _ h => h) hHeld (fun w1 hw1 => ?_) ?_
            rotate_left 1
            · skip
              go_simp
              (try (first | with_reducible rfl | (apply And.intro <;> rfl)))
            simp only [Act.put, List.setIfInBounds_toArray, List.set_cons_zero, List.set_cons_succ]
            refine run_at (i := 25) (v := ?_) rfl (by kernel_rfl) (by rfl) (fun _ _ _ h => h) hHeld (fun w1 hw1 => ?_) ?_
            rotate_left 1
            · skip
              go_simp
              (try (first | with_reducible rfl | (apply And.intro <;> rfl)))
            simp only [Act.put, List.setIfInBounds_toArray, List.set_cons_zero, List.set_cons_succ]
            refine run_at (i := 26) (v := ?_) rfl (by kernel_rfl) (by rfl) (fun _ _ _ h => h) hHeld (fun w1 hw1 => ?_) ?_
            rotate_left 1
            · skip
              have hcw0 := hw1.cell (c1) (by first | (simp; done) | exact HNS.out | exact HNW.out | (intro hm; have hlt := HSB.out _ hm; (try dsimp only at hlt); omega))
              go_simp
              (try (first | with_reducible rfl | (apply And.intro <;> rfl)))
            simp only [Act.put, List.setIfInBounds_toArray, List.set_cons_zero, List.set_cons_succ]
            refine run_at (i := 27) (v := ?_) rfl (by kernel_rfl) (by rfl) (fun _ _ _ h => h) hHeld (fun w1 hw1 => ?_) ?_
            rotate_left 1
            · skip
              go_simp
              (try (first | with_reducible rfl | (apply And.intro <;> rfl)))
            simp only [Act.put, List.setIfInBounds_toArray, List.set_cons_zero, List.set_cons_succ]
            refine run_at (i := 28) (v := ?_) rfl (by kernel_rfl) (by rfl) (fun _ _ _ h => h) hHeld (fun w1 hw1 => ?_) ?_
            rotate_left 1
            · skip
              go_simp
              (try (first | with_reducible rfl | (apply And.intro <;> rfl)))
            simp only [Act.put, List.setIfInBounds_toArray, List.set_cons_zero, List.set_cons_succ]
            refine run_at (i := 29) (v := ?_) rfl (by kernel_rfl) (by rfl) (fun _ _ _ h => h) hHeld (fun w1 hw1 => ?_) ?_
            rotate_left 1
            · skip
              go_simp
              (try (first | with_reducible rfl | (apply And.intro <;> rfl)))
            simp only [Act.put, List.setIfInBounds_toArray, List.set_cons_zero, List.set_cons_succ]
            refine row_at (i := 30) rfl (by kernel_rfl) (by rfl) _ _ rfl _ _ rfl _ (fun w1 hw1 => hw1.range (HCH.out) (by first | (simp; done) | exact HNS.out | exact HNW.out | (intro hm; have hlt := HSB.out _ hm; (try dsimp only at hlt); omega))) (row_hash.of HVL.out) (fun _ _ _ h => h) hHeld ?_
            simp only [Act.put, List.setIfInBounds_toArray, List.set_cons_zero, List.set_cons_succ]
            refine row_at (i := 31) rfl (by kernel_rfl) (by rfl) _ _ rfl _ _ rfl _ (fun w1 hw1 => hw1.range (HRW.out) (by first | (simp; done) | exact HNS.out | exact HNW.out | (intro hm; have hlt := HSB.out _ hm; (try dsimp only at hlt); omega))) (row_hash.of HSL.out) (fun _ _ _ h => h) hHeld ?_
            simp only [Act.put, List.setIfInBounds_toArray, List.set_cons_zero, List.set_cons_succ]
            refine eql_at (i := 32) rfl (by kernel_rfl) (by rfl) _ _ _ _ rfl _ _ rfl rfl _ (by kernel_rfl) (fun W => HQH.out W) (fun _ _ _ h => h) hHeld ?_
            simp only [Act.put, List.setIfInBounds_toArray, List.set_cons_zero, List.set_cons_succ]
            refine run_at (i := 33) (v := ?_) rfl (by kernel_rfl) (by rfl) (fun _ _ _ h => h) hHeld (fun w1 hw1 => ?_) ?_
            rotate_left 1
            · skip
              go_simp
              (try (first | with_reducible rfl | (apply And.intro <;> rfl)))
            simp only [Act.put, List.setIfInBounds_toArray, List.set_cons_zero, List.set_cons_succ]
            refine wpAnyH_done (by kernel_rfl) ?_ _
            have HFN := Lib.hid (HF.out.and hHeld (by simp))
            clear hHeld
            go_wp2_with fail
            go_roundw
            case rel => exact ⟨q + 1, n, by omega, by go_num, rfl, HT3.out, HFN⟩
            case measure => simp [intOf]; omega
        · have b2 : (v.r == r) = false := by simpa using h2
          have HT3 : Hid (n = (L.take (q + 1)).countP fun v => decide (v.k = k ∧ v.r = r ∧ v.h = hs)) := Lib.hid (by rw [HTK.out, ← HNq.out]; simp [h2])
          clear h1 h2
          refine wp_region_held_drew (S := Fr [] wr) (by kernel_rfl) (Fr.drew (Fr.refl _ wr)) (fun hHeld => ?_)
          refine run_at (i := 0) (v := ?_) rfl (by kernel_rfl) (by rfl) (fun _ _ _ h => h) hHeld (fun w1 hw1 => ?_) ?_
          rotate_left 1
          · skip
            go_simp
            (try (first | with_reducible rfl | (apply And.intro <;> rfl)))
          simp only [Act.put, List.setIfInBounds_toArray, List.set_cons_zero, List.set_cons_succ]
          refine run_at (i := 1) (v := ?_) rfl (by kernel_rfl) (by rfl) (fun _ _ _ h => h) hHeld (fun w1 hw1 => ?_) ?_
          rotate_left 1
          · skip
            go_simp
            (try (first | with_reducible rfl | (apply And.intro <;> rfl)))
          simp only [Act.put, List.setIfInBounds_toArray, List.set_cons_zero, List.set_cons_succ]
          refine run_at (i := 2) (v := ?_) rfl (by kernel_rfl) (by rfl) (fun _ _ _ h => h) hHeld (fun w1 hw1 => ?_) ?_
          rotate_left 1
          · skip
            go_simp
            (try (first | with_reducible rfl | (apply And.intro <;> rfl)))
          simp only [Act.put, List.setIfInBounds_toArray, List.set_cons_zero, List.set_cons_succ]
          refine run_at (i := 3) (v := ?_) rfl (by kernel_rfl) (by rfl) (fun _ _ _ h => h) hHeld (fun w1 hw1 => ?_) ?_
          rotate_left 1
          · skip
            have hcw0 := hw1.cell (c1) (by first | (simp; done) | exact HNS.out | exact HNW.out | (intro hm; have hlt := HSB.out _ hm; (try dsimp only at hlt); omega))
            go_simp
            (try (first | with_reducible rfl | (apply And.intro <;> rfl)))
          simp only [Act.put, List.setIfInBounds_toArray, List.set_cons_zero, List.set_cons_succ]
          refine run_at (i := 4) (v := ?_) rfl (by kernel_rfl) (by rfl) (fun _ _ _ h => h) hHeld (fun w1 hw1 => ?_) ?_
          rotate_left 1
          · skip
            go_simp
            (try (first | with_reducible rfl | (apply And.intro <;> rfl)))
          simp only [Act.put, List.setIfInBounds_toArray, List.set_cons_zero, List.set_cons_succ]
          refine run_at (i := 5) (v := ?_) rfl (by kernel_rfl) (by rfl) (fun _ _ _ h => h) hHeld (fun w1 hw1 => ?_) ?_
          rotate_left 1
          · skip
            go_simp
            (try (first | with_reducible rfl | (apply And.intro <;> rfl)))
          simp only [Act.put, List.setIfInBounds_toArray, List.set_cons_zero, List.set_cons_succ]
          refine run_at (i := 6) (v := ?_) rfl (by kernel_rfl) (by rfl) (fun _ _ _ h => h) hHeld (fun w1 hw1 => ?_) ?_
          rotate_left 1
          · skip
            go_simp
            (try (first | with_reducible rfl | (apply And.intro <;> rfl)))
          simp only [Act.put, List.setIfInBounds_toArray, List.set_cons_zero, List.set_cons_succ]
          refine run_at (i := 7) (v := ?_) rfl (by kernel_rfl) (by rfl) (fun _ _ _ h => h) hHeld (fun w1 hw1 => ?_) ?_
          rotate_left 1
          · skip
            have hcw0 := hw1.cell (ck) (by first | (simp; done) | exact HNS.out | exact HNW.out | (intro hm; have hlt := HSB.out _ hm; (try dsimp only at hlt); omega))
            go_simp
            (try (first | with_reducible rfl | (apply And.intro <;> rfl)))
          simp only [Act.put, List.setIfInBounds_toArray, List.set_cons_zero, List.set_cons_succ]
          refine run_at (i := 8) (v := ?_) rfl (by kernel_rfl) (by rfl) (fun _ _ _ h => h) hHeld (fun w1 hw1 => ?_) ?_
          rotate_left 1
          · skip
            go_simp
            (try (first | with_reducible rfl | (apply And.intro <;> rfl)))
          simp only [Act.put, List.setIfInBounds_toArray, List.set_cons_zero, List.set_cons_succ]
          refine run_at (i := 9) (v := ?_) rfl (by kernel_rfl) (by rfl) (fun _ _ _ h => h) hHeld (fun w1 hw1 => ?_) ?_
          rotate_left 1
          · skip
            go_simp
            (try (first | with_reducible rfl | (apply And.intro <;> rfl)))
          simp only [Act.put, List.setIfInBounds_toArray, List.set_cons_zero, List.set_cons_succ]
          refine run_at (i := 10) (v := ?_) rfl (by kernel_rfl) (by rfl) (fun _ _ _ h => h) hHeld (fun w1 hw1 => ?_) ?_
          rotate_left 1
          · skip
            go_simp
            (try (first | with_reducible rfl | (apply And.intro <;> rfl)))
          simp only [Act.put, List.setIfInBounds_toArray, List.set_cons_zero, List.set_cons_succ]
          refine run_at (i := 11) (v := ?_) rfl (by kernel_rfl) (by rfl) (fun _ _ _ h => h) hHeld (fun w1 hw1 => ?_) ?_
          rotate_left 1
          · skip
            go_simp
            (try (first | with_reducible rfl | (apply And.intro <;> rfl)))
          simp only [Act.put, List.setIfInBounds_toArray, List.set_cons_zero, List.set_cons_succ]
          refine run_at (i := 12) (v := ?_) rfl (by kernel_rfl) (by rfl) (fun _ _ _ h => h) hHeld (fun w1 hw1 => ?_) ?_
          rotate_left 1
          · skip
            go_simp
            (try (first | with_reducible rfl | (apply And.intro <;> rfl)))
          simp only [Act.put, List.setIfInBounds_toArray, List.set_cons_zero, List.set_cons_succ]
          refine run_at (i := 13) (v := ?_) rfl (by kernel_rfl) (by rfl) (fun _ _ _ h => h) hHeld (fun w1 hw1 => ?_) ?_
          rotate_left 1
          · skip
            go_simp
            (try (first | with_reducible rfl | (apply And.intro <;> rfl)))
          simp only [Act.put, List.setIfInBounds_toArray, List.set_cons_zero, List.set_cons_succ]
          refine run_at (i := 14) (v := ?_) rfl (by kernel_rfl) (by rfl) (fun _ _ _ h => h) hHeld (fun w1 hw1 => ?_) ?_
          rotate_left 1
          · skip
            have hcw0 := hw1.cell (c1) (by first | (simp; done) | exact HNS.out | exact HNW.out | (intro hm; have hlt := HSB.out _ hm; (try dsimp only at hlt); omega))
            go_simp
            (try (first | with_reducible rfl | (apply And.intro <;> rfl)))
          simp only [Act.put, List.setIfInBounds_toArray, List.set_cons_zero, List.set_cons_succ]
          refine run_at (i := 15) (v := ?_) rfl (by kernel_rfl) (by rfl) (fun _ _ _ h => h) hHeld (fun w1 hw1 => ?_) ?_
          rotate_left 1
          · skip
            go_simp
            (try (first | with_reducible rfl | (apply And.intro <;> rfl)))
          simp only [Act.put, List.setIfInBounds_toArray, List.set_cons_zero, List.set_cons_succ]
          refine run_at (i := 16) (v := ?_) rfl (by kernel_rfl) (by rfl) (fun _ _ _ h => h) hHeld (fun w1 hw1 => ?_) ?_
          rotate_left 1
          · skip
            go_simp
            (try (first | with_reducible rfl | (apply And.intro <;> rfl)))
          simp only [Act.put, List.setIfInBounds_toArray, List.set_cons_zero, List.set_cons_succ]
          refine run_at (i := 17) (v := ?_) rfl (by kernel_rfl) (by rfl) (fun _ _ _ h => h) hHeld (fun w1 hw1 => ?_) ?_
          rotate_left 1
          · skip
            go_simp
            (try (first | with_reducible rfl | (apply And.intro <;> rfl)))
          simp only [Act.put, List.setIfInBounds_toArray, List.set_cons_zero, List.set_cons_succ]
          refine run_at (i := 18) (v := ?_) rfl (by kernel_rfl) (by rfl) (fun _ _ _ h => h) hHeld (fun w1 hw1 => ?_) ?_
          rotate_left 1
          · skip
            have hcw0 := hw1.cell (cr) (by first | (simp; done) | exact HNS.out | exact HNW.out | (intro hm; have hlt := HSB.out _ hm; (try dsimp only at hlt); omega))
            go_simp
            (try (first | with_reducible rfl | (apply And.intro <;> rfl)))
          simp only [Act.put, List.setIfInBounds_toArray, List.set_cons_zero, List.set_cons_succ]
          refine run_at (i := 19) (v := ?_) rfl (by kernel_rfl) (by rfl) (fun _ _ _ h => h) hHeld (fun w1 hw1 => ?_) ?_
          rotate_left 1
          · skip
            go_simp
            (try (first | with_reducible rfl | (apply And.intro <;> rfl)))
          simp only [Act.put, List.setIfInBounds_toArray, List.set_cons_zero, List.set_cons_succ]
          refine run_at (i := 20) (v := ?_) rfl (by kernel_rfl) (by rfl) (fun _ _ _ h => h) hHeld (fun w1 hw1 => ?_) ?_
          rotate_left 1
          · skip
            go_simp
            (try (first | with_reducible rfl | (apply And.intro <;> rfl)))
          simp only [Act.put, List.setIfInBounds_toArray, List.set_cons_zero, List.set_cons_succ]
          refine run_at (i := 21) (v := ?_) rfl (by kernel_rfl) (by rfl) (fun _ _ _ h => h) hHeld (fun w1 hw1 => ?_) ?_
          rotate_left 1
          · skip
            go_simp
            (try (first | with_reducible rfl | (apply And.intro <;> rfl)))
          simp only [Act.put, List.setIfInBounds_toArray, List.set_cons_zero, List.set_cons_succ]
          refine run_at (i := 22) (v := ?_) rfl (by kernel_rfl) (by rfl) (fun _ _ _ h => h) hHeld (fun w1 hw1 => ?_) ?_
          rotate_left 1
          · skip
            go_simp
            (try (first | with_reducible rfl | (apply And.intro <;> rfl)))
          simp only [Act.put, List.setIfInBounds_toArray, List.set_cons_zero, List.set_cons_succ]
          refine skip_at (i := 23) rfl (by kernel_rfl) (fun _ _ _ h => h) (by kernel_rfl) hHeld ?_
          simp only [Act.put, List.setIfInBounds_toArray, List.set_cons_zero, List.set_cons_succ]
          refine skip_at (i := 24) rfl (by kernel_rfl) (fun _ _ _ h => h) (by kernel_rfl) hHeld ?_
          simp only [Act.put, List.setIfInBounds_toArray, List.set_cons_zero, List.set_cons_succ]
          refine skip_at (i := 25) rfl (by kernel_rfl) (fun _ _ _ h => h) (by kernel_rfl) hHeld ?_
          simp only [Act.put, List.setIfInBounds_toArray, List.set_cons_zero, List.set_cons_succ]
          refine skip_at (i := 26) rfl (by kernel_rfl) (fun _ _ _ h => h) (by kernel_rfl) hHeld ?_
          simp only [Act.put, List.setIfInBounds_toArray, List.set_cons_zero, List.set_cons_succ]
          refine skip_at (i := 27) rfl (by kernel_rfl) (fun _ _ _ h => h) (by kernel_rfl) hHeld ?_
          simp only [Act.put, List.setIfInBounds_toArray, List.set_cons_zero, List.set_cons_succ]
          refine skip_at (i := 28) rfl (by kernel_rfl) (fun _ _ _ h => h) (by kernel_rfl) hHeld ?_
          simp only [Act.put, List.setIfInBounds_toArray, List.set_cons_zero, List.set_cons_succ]
          refine skip_at (i := 29) rfl (by kernel_rfl) (fun _ _ _ h => h) (by kernel_rfl) hHeld ?_
          simp only [Act.put, List.setIfInBounds_toArray, List.set_cons_zero, List.set_cons_succ]
          refine skip_at (i := 30) rfl (by kernel_rfl) (fun _ _ _ h => h) (by kernel_rfl) hHeld ?_
          simp only [Act.put, List.setIfInBounds_toArray, List.set_cons_zero, List.set_cons_succ]
          refine skip_at (i := 31) rfl (by kernel_rfl) (fun _ _ _ h => h) (by kernel_rfl) hHeld ?_
          simp only [Act.put, List.setIfInBounds_toArray, List.set_cons_zero, List.set_cons_succ]
          refine skip_at (i := 32) rfl (by kernel_rfl) (fun _ _ _ h => h) (by kernel_rfl) hHeld ?_
          simp only [Act.put, List.setIfInBounds_toArray, List.set_cons_zero, List.set_cons_succ]
          refine run_at (i := 33) (v := ?_) rfl (by kernel_rfl) (by rfl) (fun _ _ _ h => h) hHeld (fun w1 hw1 => ?_) ?_
          rotate_left 1
          · skip
            go_simp
            (try (first | with_reducible rfl | (apply And.intro <;> rfl)))
          simp only [Act.put, List.setIfInBounds_toArray, List.set_cons_zero, List.set_cons_succ]
          refine wpAnyH_done (by kernel_rfl) ?_ _
          have HFN := Lib.hid (HF.out.and hHeld (by simp))
          clear hHeld
          go_wp2_with fail
          go_roundw
          case rel => exact ⟨q + 1, n, by omega, by go_num, rfl, HT3.out, HFN⟩
          case measure => simp [intOf]; omega
      · have b1 : (v.k == k) = false := by simpa using h1
        have HT3 : Hid (n = (L.take (q + 1)).countP fun v => decide (v.k = k ∧ v.r = r ∧ v.h = hs)) := Lib.hid (by rw [HTK.out, ← HNq.out]; simp [h1])
        clear h1
        refine wp_region_held_drew (S := Fr [] wr) (by kernel_rfl) (Fr.drew (Fr.refl _ wr)) (fun hHeld => ?_)
        refine run_at (i := 0) (v := ?_) rfl (by kernel_rfl) (by rfl) (fun _ _ _ h => h) hHeld (fun w1 hw1 => ?_) ?_
        rotate_left 1
        · skip
          go_simp
          (try (first | with_reducible rfl | (apply And.intro <;> rfl)))
        simp only [Act.put, List.setIfInBounds_toArray, List.set_cons_zero, List.set_cons_succ]
        refine run_at (i := 1) (v := ?_) rfl (by kernel_rfl) (by rfl) (fun _ _ _ h => h) hHeld (fun w1 hw1 => ?_) ?_
        rotate_left 1
        · skip
          go_simp
          (try (first | with_reducible rfl | (apply And.intro <;> rfl)))
        simp only [Act.put, List.setIfInBounds_toArray, List.set_cons_zero, List.set_cons_succ]
        refine run_at (i := 2) (v := ?_) rfl (by kernel_rfl) (by rfl) (fun _ _ _ h => h) hHeld (fun w1 hw1 => ?_) ?_
        rotate_left 1
        · skip
          go_simp
          (try (first | with_reducible rfl | (apply And.intro <;> rfl)))
        simp only [Act.put, List.setIfInBounds_toArray, List.set_cons_zero, List.set_cons_succ]
        refine run_at (i := 3) (v := ?_) rfl (by kernel_rfl) (by rfl) (fun _ _ _ h => h) hHeld (fun w1 hw1 => ?_) ?_
        rotate_left 1
        · skip
          have hcw0 := hw1.cell (c1) (by first | (simp; done) | exact HNS.out | exact HNW.out | (intro hm; have hlt := HSB.out _ hm; (try dsimp only at hlt); omega))
          go_simp
          (try (first | with_reducible rfl | (apply And.intro <;> rfl)))
        simp only [Act.put, List.setIfInBounds_toArray, List.set_cons_zero, List.set_cons_succ]
        refine run_at (i := 4) (v := ?_) rfl (by kernel_rfl) (by rfl) (fun _ _ _ h => h) hHeld (fun w1 hw1 => ?_) ?_
        rotate_left 1
        · skip
          go_simp
          (try (first | with_reducible rfl | (apply And.intro <;> rfl)))
        simp only [Act.put, List.setIfInBounds_toArray, List.set_cons_zero, List.set_cons_succ]
        refine run_at (i := 5) (v := ?_) rfl (by kernel_rfl) (by rfl) (fun _ _ _ h => h) hHeld (fun w1 hw1 => ?_) ?_
        rotate_left 1
        · skip
          go_simp
          (try (first | with_reducible rfl | (apply And.intro <;> rfl)))
        simp only [Act.put, List.setIfInBounds_toArray, List.set_cons_zero, List.set_cons_succ]
        refine run_at (i := 6) (v := ?_) rfl (by kernel_rfl) (by rfl) (fun _ _ _ h => h) hHeld (fun w1 hw1 => ?_) ?_
        rotate_left 1
        · skip
          go_simp
          (try (first | with_reducible rfl | (apply And.intro <;> rfl)))
        simp only [Act.put, List.setIfInBounds_toArray, List.set_cons_zero, List.set_cons_succ]
        refine run_at (i := 7) (v := ?_) rfl (by kernel_rfl) (by rfl) (fun _ _ _ h => h) hHeld (fun w1 hw1 => ?_) ?_
        rotate_left 1
        · skip
          have hcw0 := hw1.cell (ck) (by first | (simp; done) | exact HNS.out | exact HNW.out | (intro hm; have hlt := HSB.out _ hm; (try dsimp only at hlt); omega))
          go_simp
          (try (first | with_reducible rfl | (apply And.intro <;> rfl)))
        simp only [Act.put, List.setIfInBounds_toArray, List.set_cons_zero, List.set_cons_succ]
        refine run_at (i := 8) (v := ?_) rfl (by kernel_rfl) (by rfl) (fun _ _ _ h => h) hHeld (fun w1 hw1 => ?_) ?_
        rotate_left 1
        · skip
          go_simp
          (try (first | with_reducible rfl | (apply And.intro <;> rfl)))
        simp only [Act.put, List.setIfInBounds_toArray, List.set_cons_zero, List.set_cons_succ]
        refine run_at (i := 9) (v := ?_) rfl (by kernel_rfl) (by rfl) (fun _ _ _ h => h) hHeld (fun w1 hw1 => ?_) ?_
        rotate_left 1
        · skip
          go_simp
          (try (first | with_reducible rfl | (apply And.intro <;> rfl)))
        simp only [Act.put, List.setIfInBounds_toArray, List.set_cons_zero, List.set_cons_succ]
        refine run_at (i := 10) (v := ?_) rfl (by kernel_rfl) (by rfl) (fun _ _ _ h => h) hHeld (fun w1 hw1 => ?_) ?_
        rotate_left 1
        · skip
          go_simp
          (try (first | with_reducible rfl | (apply And.intro <;> rfl)))
        simp only [Act.put, List.setIfInBounds_toArray, List.set_cons_zero, List.set_cons_succ]
        refine skip_at (i := 11) rfl (by kernel_rfl) (fun _ _ _ h => h) (by kernel_rfl) hHeld ?_
        simp only [Act.put, List.setIfInBounds_toArray, List.set_cons_zero, List.set_cons_succ]
        refine skip_at (i := 12) rfl (by kernel_rfl) (fun _ _ _ h => h) (by kernel_rfl) hHeld ?_
        simp only [Act.put, List.setIfInBounds_toArray, List.set_cons_zero, List.set_cons_succ]
        refine skip_at (i := 13) rfl (by kernel_rfl) (fun _ _ _ h => h) (by kernel_rfl) hHeld ?_
        simp only [Act.put, List.setIfInBounds_toArray, List.set_cons_zero, List.set_cons_succ]
        refine skip_at (i := 14) rfl (by kernel_rfl) (fun _ _ _ h => h) (by kernel_rfl) hHeld ?_
        simp only [Act.put, List.setIfInBounds_toArray, List.set_cons_zero, List.set_cons_succ]
        refine skip_at (i := 15) rfl (by kernel_rfl) (fun _ _ _ h => h) (by kernel_rfl) hHeld ?_
        simp only [Act.put, List.setIfInBounds_toArray, List.set_cons_zero, List.set_cons_succ]
        refine skip_at (i := 16) rfl (by kernel_rfl) (fun _ _ _ h => h) (by kernel_rfl) hHeld ?_
        simp only [Act.put, List.setIfInBounds_toArray, List.set_cons_zero, List.set_cons_succ]
        refine skip_at (i := 17) rfl (by kernel_rfl) (fun _ _ _ h => h) (by kernel_rfl) hHeld ?_
        simp only [Act.put, List.setIfInBounds_toArray, List.set_cons_zero, List.set_cons_succ]
        refine skip_at (i := 18) rfl (by kernel_rfl) (fun _ _ _ h => h) (by kernel_rfl) hHeld ?_
        simp only [Act.put, List.setIfInBounds_toArray, List.set_cons_zero, List.set_cons_succ]
        refine skip_at (i := 19) rfl (by kernel_rfl) (fun _ _ _ h => h) (by kernel_rfl) hHeld ?_
        simp only [Act.put, List.setIfInBounds_toArray, List.set_cons_zero, List.set_cons_succ]
        refine skip_at (i := 20) rfl (by kernel_rfl) (fun _ _ _ h => h) (by kernel_rfl) hHeld ?_
        simp only [Act.put, List.setIfInBounds_toArray, List.set_cons_zero, List.set_cons_succ]
        refine run_at (i := 21) (v := ?_) rfl (by kernel_rfl) (by rfl) (fun _ _ _ h => h) hHeld (fun w1 hw1 => ?_) ?_
        rotate_left 1
        · skip
          go_simp
          (try (first | with_reducible rfl | (apply And.intro <;> rfl)))
        simp only [Act.put, List.setIfInBounds_toArray, List.set_cons_zero, List.set_cons_succ]
        refine run_at (i := 22) (v := ?_) rfl (by kernel_rfl) (by rfl) (fun _ _ _ h => h) hHeld (fun w1 hw1 => ?_) ?_
        rotate_left 1
        · skip
          go_simp
          (try (first | with_reducible rfl | (apply And.intro <;> rfl)))
        simp only [Act.put, List.setIfInBounds_toArray, List.set_cons_zero, List.set_cons_succ]
        refine skip_at (i := 23) rfl (by kernel_rfl) (fun _ _ _ h => h) (by kernel_rfl) hHeld ?_
        simp only [Act.put, List.setIfInBounds_toArray, List.set_cons_zero, List.set_cons_succ]
        refine skip_at (i := 24) rfl (by kernel_rfl) (fun _ _ _ h => h) (by kernel_rfl) hHeld ?_
        simp only [Act.put, List.setIfInBounds_toArray, List.set_cons_zero, List.set_cons_succ]
        refine skip_at (i := 25) rfl (by kernel_rfl) (fun _ _ _ h => h) (by kernel_rfl) hHeld ?_
        simp only [Act.put, List.setIfInBounds_toArray, List.set_cons_zero, List.set_cons_succ]
        refine skip_at (i := 26) rfl (by kernel_rfl) (fun _ _ _ h => h) (by kernel_rfl) hHeld ?_
        simp only [Act.put, List.setIfInBounds_toArray, List.set_cons_zero, List.set_cons_succ]
        refine skip_at (i := 27) rfl (by kernel_rfl) (fun _ _ _ h => h) (by kernel_rfl) hHeld ?_
        simp only [Act.put, List.setIfInBounds_toArray, List.set_cons_zero, List.set_cons_succ]
        refine skip_at (i := 28) rfl (by kernel_rfl) (fun _ _ _ h => h) (by kernel_rfl) hHeld ?_
        simp only [Act.put, List.setIfInBounds_toArray, List.set_cons_zero, List.set_cons_succ]
        refine skip_at (i := 29) rfl (by kernel_rfl) (fun _ _ _ h => h) (by kernel_rfl) hHeld ?_
        simp only [Act.put, List.setIfInBounds_toArray, List.set_cons_zero, List.set_cons_succ]
        refine skip_at (i := 30) rfl (by kernel_rfl) (fun _ _ _ h => h) (by kernel_rfl) hHeld ?_
        simp only [Act.put, List.setIfInBounds_toArray, List.set_cons_zero, List.set_cons_succ]
        refine skip_at (i := 31) rfl (by kernel_rfl) (fun _ _ _ h => h) (by kernel_rfl) hHeld ?_
        simp only [Act.put, List.setIfInBounds_toArray, List.set_cons_zero, List.set_cons_succ]
        refine skip_at (i := 32) rfl (by kernel_rfl) (fun _ _ _ h => h) (by kernel_rfl) hHeld ?_
        simp only [Act.put, List.setIfInBounds_toArray, List.set_cons_zero, List.set_cons_succ]
        refine run_at (i := 33) (v := ?_) rfl (by kernel_rfl) (by rfl) (fun _ _ _ h => h) hHeld (fun w1 hw1 => ?_) ?_
        rotate_left 1
        · skip
          go_simp
          (try (first | with_reducible rfl | (apply And.intro <;> rfl)))
        simp only [Act.put, List.setIfInBounds_toArray, List.set_cons_zero, List.set_cons_succ]
        refine wpAnyH_done (by kernel_rfl) ?_ _
        have HFN := Lib.hid (HF.out.and hHeld (by simp))
        clear hHeld
        go_wp2_with fail
        go_roundw
        case rel => exact ⟨q + 1, n, by omega, by go_num, rfl, HT3.out, HFN⟩
        case measure => simp [intOf]; omega
    · have hqe : q = N := by omega
      have hd : decide (q < N) = false := decide_eq_false hlt
      go_wp2
      go_ret
      exact ⟨by rw [HCE.out, HNq.out, hqe, List.take_of_length_le (Nat.le_of_eq HLN.out)]; rfl, HF0.out.and HF.out (by simp)⟩
end Go.Proofs.Ytfmkegblhpnfcaa

namespace Go.Proofs.Ytfmkegblhpnfcaa
open Go.RowKit
set_option maxRecDepth 100000
/-- what a type's table says of an element's size -/
def ElTy (P : Program) (e : TypeId) (k bytes : Nat) : Prop := ∃ i z, P.info? e = some i ∧ i.zero = some z ∧ z.cells.size = k ∧ i.size = k ∧ i.bytes = bytes
theorem ElTy.of {P : Program} {e : TypeId} {k bytes : Nat} (h : (P.info? e).map (fun i => (i.zero.map (·.cells.size), i.size, i.bytes)) = some (some k, k, bytes)) : ElTy P e k bytes := by
  cases hi : P.info? e with
  | none => rw [hi] at h; cases h
  | some i =>
    rw [hi] at h
    simp only [Option.map_some, Option.some.injEq, Prod.mk.injEq] at h
    cases hz : i.zero with
    | none => rw [hz] at h; simp at h
    | some z =>
      rw [hz] at h
      exact ⟨i, z, hi, hz, by simpa using h.1, h.2.1, h.2.2⟩
theorem wp_build_one {P : Program} {o : Oper} {a : Act} {w : World} {K : Act → World → Prop} {Q : Exit → Act → World → Prop} (t e : TypeId) (y : Operand) (ho : o.op = .buildSlice t 1 #[(0, y)]) (hu : P.underlying t = some (.slice e))
    (cs : List Value) (bytes : Nat) (he : ElTy P e cs.length bytes) (hy : a.eval y = .agg cs.toArray) (h0 : 0 < cs.length) (h1 : cs.length ≤ 1000)
    (h : K (a.put o.dst (.slice (some ⟨w.heap.size, 0, none⟩) 1 1)) (w.alloc (.cells cs.toArray e))) : o.wp P a w K Q := by
  obtain ⟨i, z, hi, hz, hzs, hs, _⟩ := he
  refine wp_buildSlice t e 1 _ ho cs.toArray i z hu hi hz (by rw [hs]; omega) (by rw [hs]; omega) ?_ h
  have hl : ((Array.range (1 * i.size)).map (z.cells[· % z.cells.size]!)).size = cs.length := by simp [hs]
  generalize (Array.range (1 * i.size)).map (z.cells[· % z.cells.size]!) = Z at *
  have e1 : (#[(0, y)].map fun (i, x) => (i, a.eval x)).toList = [(0, .agg cs.toArray)] := by simp [hy]
  rw [e1, fill_step _ _ 0 0 cs.length _ _ (by simp [hs]) (by simp [Value.cells]) (by omega), Instr.fill]
  congr 1
  have hd : Z.toList.drop cs.length = [] := List.drop_eq_nil_of_le (by simp [hl])
  simp [splice, Value.cells, hd]
theorem wpList_build_one {P : Program} {ops : Array Oper} {rest : List Oper} {o : Oper} {a : Act} {w : World} {Q : Exit → Act → World → Prop} (hg : o.guard = none) (t e : TypeId) (y : Operand) (ho : o.op = .buildSlice t 1 #[(0, y)]) (hu : P.underlying t = some (.slice e))
    (cs : List Value) (bytes : Nat) (he : ElTy P e cs.length bytes) (hy : a.eval y = .agg cs.toArray) (h0 : 0 < cs.length) (h1 : cs.length ≤ 1000)
    (h : wpList P ops Q rest (a.put o.dst (.slice (some ⟨w.heap.size, 0, none⟩) 1 1)) (w.alloc (.cells cs.toArray e))) : wpList P ops Q (o :: rest) a w :=
  wpList_plain hg fun _ hK => wp_build_one t e y ho hu cs bytes he hy h0 h1 (hK _ _ h)
/-- one more thing behind a slice that the call owns, out of the block that was made for it just now -/
theorem wpList_append_one {P : Program} {ops : Array Oper} {rest : List Oper} {o : Oper} {a : Act} {w : World} {Q : Exit → Act → World → Prop} (hg : o.guard = none) (s x : Operand) (t e : TypeId)
    (ho : o.op = .call { callee := .builtin .append, args := #[s, x], argTypes := #[t, t] }) (ht : P.underlying t = some (.slice e)) (k bytes : Nat) (he : ElTy P e k bytes) (hk : 0 < k)
    (base : Nat) (v : Value) (n : Nat) (xs cs : List Value) (hs : a.eval s = v) (hown : w.ownsRow base e k v n xs) (hbase : base ≤ w.heap.size) (hcl : cs.length = k) (h1 : ∀ u ∈ cs, u.oneCell' = true)
    (g : Nat) (t' : TypeId) (hx : a.eval x = .slice (some ⟨g, 0, none⟩) 1 1) (hb : Blk w g t' cs.toArray) (hn : n < 1000000) (hby : bytes ≤ 1000)
    (h : ∀ A c w', w'.ownsRow base e k (.slice A (n + 1) c) (n + 1) (xs ++ cs) → Fr v.ownBlock.toList w w' → wpList P ops Q rest (a.put o.dst (.slice A (n + 1) c)) w') : wpList P ops Q (o :: rest) a w := by
  obtain ⟨i, z, hi, hz, hzs, hsz, hbs⟩ := he
  refine wpList_append_lies w hg s x t ho base e i z k bytes ht hi hz hsz hbs hzs hk v n xs hs hown ⟨g, 0, none⟩ 1 1 cs hx (by omega) (fun j u hu => ?_) h1 (by omega) (by simp only [maxLen]; omega)
    (Nat.le_trans (Nat.mul_le_mul (show n + 1 ≤ 1000000 by omega) hby) (by decide)) hbase _ rfl (fun g' cap w' h2 h3 _ _ => ?_)
  · have hadd : (⟨g, 0, none⟩ : Addr).add j = ⟨g, j, none⟩ := by unfold Addr.add; split <;> simp_all
    rw [hadd, hb.cell j]
    simpa using hu
  · exact h _ _ w' h2 ((Fr.refl _ w).grown h3 (fun y hy _ => by simp [hy]))
end Go.Proofs.Ytfmkegblhpnfcaa

namespace Go.Proofs.Ytfmkegblhpnfcaa
open Go.RowKit
set_option maxRecDepth 100000

/-- a list in new memory that the call owns -/
def NewL {α : Type} (e : TypeId) (k : Nat) (cells : α → List Value) (w w' : World) (A : Option Addr) (n c : Nat) (l : List α) : Prop :=
  w'.ownsRow 0 e k (.slice A n c) n (l.flatMap cells) ∧ Fr [] w w' ∧ ∀ x ∈ bk A, w.heap.size ≤ x
theorem cells_one {α : Type} {cells : α → List Value} (hone : ∀ v, ∀ u ∈ cells v, u.oneCell' = true) (l : List α) : ∀ u ∈ l.flatMap cells, u.oneCell' = true := by
  intro u hu
  obtain ⟨v, _, hv⟩ := List.mem_flatMap.1 hu
  exact hone v u hv
theorem cells_flat_len {α : Type} {cells : α → List Value} {k : Nat} : ∀ {l : List α}, (∀ v ∈ l, (cells v).length = k) → (l.flatMap cells).length = l.length * k
  | [], _ => by simp
  | v :: l, h => by
    rw [List.flatMap_cons, List.length_append, h v (by simp), cells_flat_len (fun u hu => h u (by simp [hu])), List.length_cons, Nat.succ_mul]
    omega
theorem flat_back {α : Type} {cells : α → List Value} {k : Nat} (hk0 : 0 < k) : ∀ {l : List α}, (∀ v ∈ l, (cells v).length = k) → ∀ {j : Nat} {u : Value}, (l.flatMap cells)[j]? = some u → ∃ v, l[j / k]? = some v ∧ (cells v)[j % k]? = some u
  | [], _, j, u, hj => by simp at hj
  | v :: l, h, j, u, hj => by
    have hv := h v (by simp)
    rw [List.flatMap_cons] at hj
    by_cases hlt : j < k
    · rw [List.getElem?_append_left (by omega)] at hj
      exact ⟨v, by rw [Nat.div_eq_of_lt hlt]; rfl, by rw [Nat.mod_eq_of_lt hlt]; exact hj⟩
    · rw [List.getElem?_append_right (by omega), hv] at hj
      obtain ⟨v', h1, h2⟩ := flat_back hk0 (fun u hu => h u (by simp [hu])) hj
      refine ⟨v', ?_, by rw [Nat.mod_eq_sub_mod (show j ≥ k by omega)]; exact h2⟩
      rw [Nat.div_eq_sub_div hk0 (show k ≤ j by omega), List.getElem?_cons_succ]
      exact h1
theorem Lst.flat {α : Type} {k : Nat} {cells : α → List Value} {ok : World → α → Prop} {w : World} {ad : Addr} {n : Nat} {l : List α} (h : Lst k cells ok w (some ad) n l) (hk : 0 < k) : ∀ j u, (l.flatMap cells)[j]? = some u → w.cell? (ad.add j) = some u := by
  intro j u hj
  obtain ⟨v, h1, h2⟩ := flat_back hk (fun v hv => (h.2.1 v hv).1) hj
  have hn : 0 < n := by
    have h3 := (List.getElem?_eq_some_iff.1 h1).1
    rw [h.1] at h3
    exact Nat.lt_of_le_of_lt (Nat.zero_le _) h3
  obtain ⟨ad', e, hc⟩ := h.2.2 hn
  injection e with e
  subst e
  have := hc _ _ h1 _ _ h2
  rwa [Nat.div_add_mod' j k] at this
section
variable {P : Program} (w : World)
theorem run_append_lst {α : Type} {cells : α → List Value} {ok : World → α → Prop} (hone : ∀ v, ∀ u ∈ cells v, u.oneCell' = true) (t ty e : TypeId) (k bytes : Nat) (ht : P.underlying t = some (.slice e)) (he : ElTy P e k bytes) (hk : 0 < k) (hby : bytes ≤ 1000)
    (A : Option Addr) (m c : Nat) (l : List α) (hr : Lst k cells ok w A m l) (hm : m ≤ 1000000) :
    ∃ A' c' w', (Builtin.append_ #[t, t] ty #[.slice none 0 0, .slice A m c]).run P w = .ok (.slice A' m c') w' ∧ NewL e k cells w w' A' m c' l := by
  obtain ⟨i, z, hi, hz, hzs, hsz, hbs⟩ := he
  have hnil : w.ownsRow 0 e k (.slice none 0 0) 0 [] := ⟨by simp, .inl ⟨rfl, rfl⟩⟩
  suffices h : ∃ v' w', (Builtin.append_ #[t, t] ty #[.slice none 0 0, .slice A m c]).run P w = .ok v' w' ∧ w'.ownsRow 0 e k v' m (l.flatMap cells) ∧ w.grownBy w' none ∧ (v'.ownBlock = none ∨ v'.ownBlock = some w.heap.size) by
    obtain ⟨v', w', h1, h2, h3, h4⟩ := h
    obtain ⟨A', c', rfl⟩ := own_form h2
    refine ⟨A', c', w', h1, h2, (Fr.refl [] w).grown h3 (by simp), fun x hx => ?_⟩
    rw [← bk_own A' m c'] at hx
    rcases h4 with h4 | h4 <;> rw [h4] at hx <;> simp at hx <;> omega
  rcases A with _ | ad
  · have hm0 : m = 0 := by
      rcases Nat.eq_zero_or_pos m with h0 | h0
      · exact h0
      · obtain ⟨ad, h, _⟩ := hr.2.2 h0
        cases h
    subst hm0
    have hn : l = [] := List.eq_nil_of_length_eq_zero hr.1
    subst hn
    exact ⟨_, w, run_append_nothing w 0 t ty e i k ht hi _ 0 [] hnil c, by simpa using hnil, World.grownBy.refl w _, .inl rfl⟩
  · obtain ⟨v', w', hrun, h2, h3, _, h5⟩ := run_append_own_at (P := P) w 0 t ty e i z k bytes ht hi hz hsz hbs hzs hk _ 0 [] hnil ad m c (l.flatMap cells)
      (by rw [cells_flat_len (fun v hv => (hr.2.1 v hv).1), hr.1]) (hr.flat hk) (cells_one hone l) (by simp only [maxLen]; omega)
      (Nat.le_trans (Nat.mul_le_mul (show 0 + m ≤ 1000000 by omega) hby) (by decide)) (Nat.zero_le _)
    exact ⟨v', w', hrun, by simpa using h2, h3, by simpa [Value.ownBlock] using h5⟩
theorem wpList_append_lst {α : Type} {cells : α → List Value} {ok : World → α → Prop} {ops : Array Oper} {rest : List Oper} {o : Oper} {a : Act} {Q : Exit → Act → World → Prop} (hgd : o.guard = none) (s x : Operand) (t : TypeId)
    (ho : o.op = .call { callee := .builtin .append, args := #[s, x], argTypes := #[t, t] }) (e : TypeId) (k bytes : Nat) (ht : P.underlying t = some (.slice e)) (he : ElTy P e k bytes) (hk : 0 < k) (hby : bytes ≤ 1000)
    (hone : ∀ v, ∀ u ∈ cells v, u.oneCell' = true) (hs : a.eval s = .slice none 0 0) (A : Option Addr) (m c : Nat) (l : List α) (hx : a.eval x = .slice A m c) (hr : Lst k cells ok w A m l) (hm : m ≤ 1000000)
    (h : ∀ A' c' w', NewL e k cells w w' A' m c' l → wpList P ops Q rest (a.put o.dst (.slice A' m c')) w') : wpList P ops Q (o :: rest) a w := by
  refine wpList_plain hgd fun K hK => ?_
  obtain ⟨A', c', w', hrun, h2⟩ := run_append_lst (P := P) w hone t o.type e k bytes ht he hk hby A m c l hr hm
  unfold Oper.wp execOp
  simp only [ho, resolve, invoke, builtin, Sem.run_bind, Sem.run_pure, Result.andThen_ok, List.map_toArray, List.map_cons, List.map_nil, hs, hx, hrun]
  exact hK _ _ (h A' c' w' h2)
end
end Go.Proofs.Ytfmkegblhpnfcaa

namespace Go.Proofs.Ytfmkegblhpnfcaa
set_option maxRecDepth 100000
open Go.RowKit
theorem till_twoT {P : Program} {l : List Oper} {Q : Exit → Act → World → Prop} {md : Region.Mode} {T : Nat} {A B : World → Prop} {fuel : Nat} {L : Array Bool} {a : Act} {w : World} {i j : Nat} {o p : Oper} (hi : nthOp l i = some o) (hj : nthOp l j = some p) (hr : Region.ready md l.toArray L = [i, j])
    (hw : Region.wanted o (yielded l.toArray a.tmps) = true) (hw2 : Region.wanted p (yielded l.toArray a.tmps) = true)
    (h : ∀ K : Act → World → Prop, Shut (∀ a w, A w → B w → (A w → B w → wpTill P md l.toArray Q T A B fuel (L.setIfInBounds i true) a w) → K a w) → Oper.wp P o a w K Q)
    (h2 : ∀ K : Act → World → Prop, Shut (∀ a w, A w → B w → (A w → B w → wpTill P md l.toArray Q T A B fuel (L.setIfInBounds j true) a w) → K a w) → Oper.wp P p a w K Q) : wpTill P md l.toArray Q T A B (fuel + 1) L a w := by
  refine ⟨fun h0 => (by rw [hr] at h0; cases h0), fun x hx => ?_⟩
  rw [hr] at hx
  rcases List.mem_cons.1 hx with hx | hx
  · subst hx
    unfold wpOp
    rw [List.getElem?_toArray, nthOp_eq, hi]
    simp only [hw, if_true]
    exact .inl (h _ (fun a w hA hB hW => ⟨⟨hA, fun _ => hB⟩, hW hA hB⟩))
  · obtain rfl : x = j := by simpa using hx
    unfold wpOp
    rw [List.getElem?_toArray, nthOp_eq, hj]
    simp only [hw2, if_true]
    exact .inl (h2 _ (fun a w hA hB hW => ⟨⟨hA, fun _ => hB⟩, hW hA hB⟩))
theorem till_stepT {P : Program} {l : List Oper} {Q : Exit → Act → World → Prop} {md : Region.Mode} {T : Nat} {A B : World → Prop} {fuel : Nat} {L : Array Bool} {a : Act} {w : World} {i : Nat} {o : Oper} (hi : nthOp l i = some o) (hr : Region.ready md l.toArray L = [i]) (hw : Region.wanted o (yielded l.toArray a.tmps) = true)
    (h : ∀ K : Act → World → Prop, Shut (∀ a w, A w → B w → (A w → B w → wpTill P md l.toArray Q T A B fuel (L.setIfInBounds i true) a w) → K a w) → Oper.wp P o a w K Q) : wpTill P md l.toArray Q T A B (fuel + 1) L a w :=
  till_one hi hr hw (h _ (fun a w hA hB hW => ⟨⟨hA, fun _ => hB⟩, hW hA hB⟩))
theorem wp_append_lstT {P : Program} {α : Type} {cells : α → List Value} {ok : World → α → Prop} {o : Oper} {a : Act} {w : World} {K : Act → World → Prop} {Q : Exit → Act → World → Prop} (s x : Operand) (t : TypeId)
    (ho : o.op = .call { callee := .builtin .append, args := #[s, x], argTypes := #[t, t] }) (e : TypeId) (k bytes : Nat) (ht : P.underlying t = some (.slice e)) (he : ElTy P e k bytes) (hk : 0 < k) (hby : bytes ≤ 1000)
    (hone : ∀ v, ∀ u ∈ cells v, u.oneCell' = true) (hs : a.eval s = .slice none 0 0) (A : Option Addr) (m c : Nat) (l : List α) (hx : a.eval x = .slice A m c) (hr : Lst k cells ok w A m l) (hm : m ≤ 1000000)
    (h : ∀ A' c' w', NewL e k cells w w' A' m c' l → K (a.put o.dst (.slice A' m c')) w') : o.wp P a w K Q := by
  obtain ⟨A', c', w', hrun, h2⟩ := run_append_lst (P := P) w hone t o.type e k bytes ht he hk hby A m c l hr hm
  unfold Oper.wp execOp
  simp only [ho, resolve, invoke, builtin, Sem.run_bind, Sem.run_pure, Result.andThen_ok, List.map_toArray, List.map_cons, List.map_nil, hs, hx, hrun]
  exact h A' c' w' h2
theorem wp_append_oneT {P : Program} {o : Oper} {a : Act} {w : World} {K : Act → World → Prop} {Q : Exit → Act → World → Prop} (s x : Operand) (t e : TypeId)
    (ho : o.op = .call { callee := .builtin .append, args := #[s, x], argTypes := #[t, t] }) (ht : P.underlying t = some (.slice e)) (k bytes : Nat) (he : ElTy P e k bytes) (hk : 0 < k)
    (base : Nat) (v : Value) (n : Nat) (xs cs : List Value) (hs : a.eval s = v) (hown : w.ownsRow base e k v n xs) (hbase : base ≤ w.heap.size) (hcl : cs.length = k) (h1 : ∀ u ∈ cs, u.oneCell' = true)
    (g : Nat) (t' : TypeId) (hx : a.eval x = .slice (some ⟨g, 0, none⟩) 1 1) (hb : Blk w g t' cs.toArray) (hn : n < 1000000) (hby : bytes ≤ 1000)
    (h : ∀ A c w', w'.ownsRow base e k (.slice A (n + 1) c) (n + 1) (xs ++ cs) → Fr v.ownBlock.toList w w' → ((Value.slice A (n + 1) c).ownBlock = v.ownBlock ∨ (Value.slice A (n + 1) c).ownBlock = some w.heap.size) → K (a.put o.dst (.slice A (n + 1) c)) w') : o.wp P a w K Q := by
  obtain ⟨i, z, hi, hz, hzs, hsz, hbs⟩ := he
  refine wp_append_lies w s x t ho base e i z k bytes ht hi hz hsz hbs hzs hk v n xs hs hown ⟨g, 0, none⟩ 1 1 cs hx (by omega) (fun j u hu => ?_) h1 (by omega) (by simp only [maxLen]; omega)
    (Nat.le_trans (Nat.mul_le_mul (show n + 1 ≤ 1000000 by omega) hby) (by decide)) hbase _ rfl (fun g' cap w' h2 h3 h4 _ => ?_)
  · have hadd : (⟨g, 0, none⟩ : Addr).add j = ⟨g, j, none⟩ := by unfold Addr.add; split <;> simp_all
    rw [hadd, hb.cell j]
    simpa using hu
  · exact h _ _ w' h2 ((Fr.refl _ w).grown h3 (fun y hy _ => by simp [hy])) (h4.imp (fun e => e.symm) (fun e => by rw [e]; rfl))
theorem el_rv : ElTy Try.prog 76 35 56 := ElTy.of (by kernel_rfl)
theorem rv_one (v : Tv) : ∀ u ∈ rcells v, u.oneCell' = true := by
  intro u hu
  simp only [rcells, List.mem_cons, List.mem_map] at hu
  rcases hu with rfl | rfl | rfl | ⟨b, _, rfl⟩ <;> rfl
theorem rv_len {v : Tv} (h : v.h.length = 32) : (rcells v).length = 35 := by simp [rcells, h]
theorem builtRv_eq (parts : List (Nat × Value)) : Try.prog.built 76 parts = Instr.fill ([(0, 1), (1, 1), (2, 1), (3, 32)].toArray[·]?) (rcells ⟨0, 0, 0, zh32⟩).toArray parts := by kernel_rfl
theorem built_rv (k r : Int) (p : Nat) (h : List UInt8) (hh : h.length = 32) : Try.prog.built 76 [(0, .int .i64 k), (1, .int .i64 r), (2, .int .i64 p), (3, .agg (h.map by8).toArray)] = some (rcells ⟨k, r, p, h⟩).toArray := by
  rw [builtRv_eq, fill_step _ _ 0 0 1 _ _ rfl (by simp [Value.cells]) (by show 0 + 1 ≤ 35; omega), fill_step _ _ 1 1 1 _ _ rfl (by simp [Value.cells]) (by simp [splice, rcells, Value.cells, zh32]), fill_step _ _ 2 2 1 _ _ rfl (by simp [Value.cells]) (by simp [splice, rcells, Value.cells, zh32]), fill_step _ _ 3 3 32 _ _ rfl (by simp [Value.cells, hh]) (by simp [splice, rcells, Value.cells, zh32]), Instr.fill]
  congr 2
  have tk : ∀ n, 32 ≤ n → (h.map by8).take n = h.map by8 := fun n hn => List.take_of_length_le (by simp [hh]; omega)
  simp [splice, rcells, Value.cells, zh32, hh]
set_option maxHeartbeats 2000000 in
theorem radd_arg (w : World) (S : List Nat) (g : Nat) (f c : Int) (T : List Tv) (h : Rt w S g f c T) (hf : 0 ≤ f ∧ f ≤ 1000) (k r p : Int) (hs : List UInt8) (hA : argV (3 * f + 1) k r p = false) :
    Calls Try.prog 28 #[.pointer (some ⟨g, 0, none⟩), .int .i64 k, .int .i64 r, .int .i64 p, .agg (hs.map by8).toArray] w fun e w' => e = .returned (.bool false) ∧ Fr [] w w' := by
  obtain ⟨wa, hwa⟩ : ∃ wa, wa = w.alloc (Obj.cells (hs.map by8).toArray 30) := ⟨_, rfl⟩
  have hf0 : Fr [] w wa := by rw [hwa]; exact (Fr.refl [] w).alloc _
  obtain ⟨A, d, -, h1, -, -⟩ := h.keep hf0 (by simp)
  have HCF : Hid (wa.rangeAt g 0 [.int .i64 f, .int .i64 c]) := Lib.hid (fun j x hx => by
    have := h1.cell j
    rcases j with _ | _ | j
    · simp at hx; subst hx; simpa using this
    · simp at hx; subst hx; simpa using this
    · simp at hx)
  have HWA := Lib.hid hwa
  have HF0 := Lib.hid hf0
  have HA := Lib.hid hA
  have HFF := Lib.hid hf
  clear h h1 hwa hf0 hA hf
  go_enter Try.func28, Try.ntmps28
  go_upto_region 1 with (fail)
  change Code.wp _ _ _ _ (w.alloc (Obj.cells (hs.map by8).toArray 30))
  rw [← HWA.out]
  by_cases h1 : k < 1
  · have hd1 : decide (k < 1) = true := decide_eq_true h1
    go_wp2
    go_ret
    exact ⟨rfl, HF0.out⟩
  have hd1 : decide (k < 1) = false := decide_eq_false h1
  by_cases h2 : 2 < k
  · have hd2 : decide (2 < k) = true := decide_eq_true h2
    go_wp2
    go_ret
    exact ⟨rfl, HF0.out⟩
  have hd2 : decide (2 < k) = false := decide_eq_false h2
  by_cases h3 : r < 0
  · have hd3 : decide (r < 0) = true := decide_eq_true h3
    go_wp2
    go_ret
    exact ⟨rfl, HF0.out⟩
  have hd3 : decide (r < 0) = false := decide_eq_false h3
  by_cases h4 : 1048576 < r
  · have hd4 : decide (1048576 < r) = true := decide_eq_true h4
    go_wp2
    go_ret
    exact ⟨rfl, HF0.out⟩
  have hd4 : decide (1048576 < r) = false := decide_eq_false h4
  by_cases h5 : p < 0
  · have hd5 : decide (p < 0) = true := decide_eq_true h5
    go_wp2
    go_ret
    exact ⟨rfl, HF0.out⟩
  have hd5 : decide (p < 0) = false := decide_eq_false h5
  have h6 : 3 * f + 1 ≤ p := by
    have hh := HA.out
    unfold argV at hh
    have := of_decide_eq_false hh
    omega
  have hd6 : decide (3 * f + 1 ≤ p) = true := decide_eq_true h6
  clear h1 h2 h3 h4 h5 h6
  go_wp2_with (refine wpList_row rfl 24 _ rfl _ _ rfl _ HCF.out row_conf2 ?_)
  refine (tn_any f c HFF.out wa).mono ?_
  rintro e w1 ⟨rfl, hf1⟩
  have HF1 := Lib.hid (HF0.out.and hf1 (by simp))
  clear hf1
  go_wp2_with fail
  go_ret
  exact ⟨rfl, HF1.out⟩
end Go.Proofs.Ytfmkegblhpnfcaa

namespace Go.Proofs.Ytfmkegblhpnfcaa
set_option maxRecDepth 100000
open Go.RowKit Go.Sort

/-- the row of numbers d lies in block blk from off on, and may be stored into -/
def Hu (w : World) (blk off : Nat) (d : Array Int) : Prop := Go.Sort.Holds (Value.int .u64) w blk off d
section
variable {w w' : World} {blk off : Nat} {d : Array Int} {S : List Nat}
theorem Hu.cell (h : Hu w blk off d) {j : Nat} (hj : j < d.size) : w.cell? ⟨blk, off + j, none⟩ = some (.int .u64 d[j]!) := (h j hj).1
theorem Hu.frozen (h : Hu w blk off d) {j : Nat} (hj : j < d.size) : w.frozen? ⟨blk, off + j, none⟩ = false := (h j hj).2
theorem frozen_of_heap {a : Addr} (h : w'.heap[a.block]? = w.heap[a.block]?) : w'.frozen? a = w.frozen? a := by
  unfold World.frozen?
  rw [h]
theorem Hu.keep (h : Hu w blk off d) (hf : Fr S w w') (hn : ¬ blk ∈ S) : Hu w' blk off d := fun j hj =>
  ⟨hf.cell (h j hj).1 hn, by
    rw [frozen_of_heap (hf.block blk (World.block_lt_of_cell? w _ (h j hj).1) hn)]
    exact (h j hj).2⟩
theorem Hu.drewN (h : Hu w blk off d) (n : Nat) : Hu (w.drewN n) blk off d := h
theorem Hu.swap (h : Hu w blk off d) {i j : Nat} (hi : i < d.size) (hj : j < d.size) :
    Hu ((w.setCell ⟨blk, off + i, none⟩ (.int .u64 d[j]!)).setCell ⟨blk, off + j, none⟩ (.int .u64 d[i]!)) blk off (swp d i j) := by
  have e := putRow_swp (Value.int .u64) w blk off d i j hi hj
  rw [putRow_self _ _ _ _ _ h] at e
  unfold Hu
  rw [e]
  exact holds_putRow _ _ _ _ d _ h (size_swp d i j)
theorem Fr.swap (w : World) (blk i j : Nat) (u v : Value) : Fr [blk] w ((w.setCell ⟨blk, i, none⟩ u).setCell ⟨blk, j, none⟩ v) :=
  ((Fr.refl [blk] w).setCell _ (fun _ => by simp) u).setCell _ (fun _ => by simp) v
/-- a row that a call has turned into another of the same length -/
def Su (w : World) (blk off : Nat) (d : Array Int) (w' : World) (d' : Array Int) : Prop := Hu w' blk off d' ∧ d'.size = d.size ∧ Fr [blk] w w'
theorem Su.start (h : Hu w blk off d) : Su w blk off d w d := ⟨h, rfl, Fr.refl _ _⟩
theorem Su.quiet {d' : Array Int} {w2 : World} (h : Su w blk off d w' d') (hf : Fr [] w' w2) : Su w blk off d w2 d' :=
  ⟨h.1.keep hf (by simp), h.2.1, h.2.2.trans hf (by simp)⟩
theorem Su.swap {d' : Array Int} (h : Su w blk off d w' d') {i j : Nat} (hi : i < d.size) (hj : j < d.size) :
    Su w blk off d ((w'.setCell ⟨blk, off + i, none⟩ (.int .u64 d'[j]!)).setCell ⟨blk, off + j, none⟩ (.int .u64 d'[i]!)) (swp d' i j) :=
  ⟨h.1.swap (by rw [h.2.1]; exact hi) (by rw [h.2.1]; exact hj), by rw [size_swp, h.2.1], h.2.2.trans (Fr.swap _ _ _ _ _ _) (fun _ hx _ => hx)⟩
theorem Su.trans {d' d'' : Array Int} {w2 : World} (h : Su w blk off d w' d') (k : Su w' blk off d' w2 d'') : Su w blk off d w2 d'' :=
  ⟨k.1, k.2.1.trans h.2.1, h.2.2.trans k.2.2 (fun _ hx _ => hx)⟩
end

end Go.Proofs.Ytfmkegblhpnfcaa

namespace Go.Proofs.Ytfmkegblhpnfcaa
set_option maxRecDepth 100000
open Go.RowKit Go.Sort

/-- m is the middle one of l by size -/
structure IsMed (l : List Int) (m : Int) : Prop where
  mem : m ∈ l
  low : l.countP (fun x => decide (x < m)) ≤ l.length / 2
  high : l.length / 2 < l.countP (fun x => decide (x ≤ m))
theorem countP_mono {α : Type} {p q : α → Bool} {l : List α} (h : ∀ x ∈ l, p x = true → q x = true) : l.countP p ≤ l.countP q := List.countP_mono_left h
theorem IsMed.le {l : List Int} {m k : Int} (h : IsMed l m) (hk : IsMed l k) : m ≤ k := by
  rcases Int.lt_or_le k m with hlt | h2
  · have h1 := hk.high
    have h2 := h.low
    have h3 : l.countP (fun x => decide (x ≤ k)) ≤ l.countP (fun x => decide (x < m)) := countP_mono (fun x _ hx => by simp at hx ⊢; omega)
    omega
  · exact h2
theorem IsMed.one {l : List Int} {m k : Int} (h : IsMed l m) (hk : IsMed l k) : m = k := Int.le_antisymm (h.le hk) (hk.le h)
theorem IsMed.perm {l k : List Int} {m : Int} (h : IsMed l m) (hp : k.Perm l) : IsMed k m :=
  ⟨hp.mem_iff.2 h.mem, by rw [hp.countP_eq, hp.length_eq]; exact h.low, by rw [hp.countP_eq, hp.length_eq]; exact h.high⟩
/-- where times rise the median does not fall -/
theorem countP_rise {l k : List Int} (hlen : l.length = k.length) (h : ∀ (i : Nat) (x y : Int), l[i]? = some x → k[i]? = some y → x ≤ y) (m : Int) : k.countP (fun x => decide (x ≤ m)) ≤ l.countP (fun x => decide (x ≤ m)) := by
  induction l generalizing k with
  | nil => cases k <;> simp_all
  | cons a l ih =>
    rcases k with _ | ⟨b, k⟩
    · simp at hlen
    · have h0 := h 0 a b rfl rfl
      have h1 := ih (k := k) (by simpa using hlen) (fun i x y hx hy => h (i + 1) x y (by simpa using hx) (by simpa using hy))
      simp only [List.countP_cons]
      by_cases hb : b ≤ m
      · have ha : a ≤ m := by omega
        simp [hb, ha]; exact h1
      · simp only [hb, decide_false, Bool.false_eq_true, if_false]
        have : 0 ≤ (if decide (a ≤ m) = true then 1 else 0) := by split <;> omega
        omega
theorem IsMed.rise {l k : List Int} {m c : Int} (h : IsMed l m) (hk : IsMed k c) (hlen : l.length = k.length) (hr : ∀ (i : Nat) (x y : Int), l[i]? = some x → k[i]? = some y → x ≤ y) : m ≤ c := by
  rcases Int.lt_or_le c m with hlt | h2
  · have h1 := hk.high
    have h2 := h.low
    have h3 := countP_rise hlen hr c
    have h4 : l.countP (fun x => decide (x ≤ c)) ≤ l.countP (fun x => decide (x < m)) := countP_mono (fun x _ hx => by simp at hx ⊢; omega)
    omega
  · exact h2
/-- with at most half of the times made up the median is not below the least of the others, nor above the greatest -/
theorem IsMed.between {l k : List Int} {m lo hi : Int} (h : IsMed (l ++ k) m) (hlen : k.length < l.length) (hl : ∀ x ∈ l, lo ≤ x ∧ x ≤ hi) : lo ≤ m ∧ m ≤ hi := by
  have hlow := h.low
  have hhigh := h.high
  rw [List.countP_append, List.length_append] at hlow hhigh
  constructor
  · rcases Int.lt_or_le m lo with hlt | h2
    · have h3 : l.countP (fun x => decide (x ≤ m)) = 0 := List.countP_eq_zero.2 (fun x hx => by have := (hl x hx).1; simp; omega)
      have h4 := List.countP_le_length (p := fun x => decide (x ≤ m)) (l := k)
      omega
    · exact h2
  · rcases Int.lt_or_le hi m with hlt | h2
    · have h3 : l.countP (fun x => decide (x < m)) = l.length := List.countP_eq_length.2 (fun x hx => by have := (hl x hx).2; simp; omega)
      omega
    · exact h2
/-- the middle place of a row that is sorted holds the median -/
theorem isMed_sorted {d : Array Int} (h : SortedIn ltInt 0 d.size d) (h0 : 0 < d.size) : IsMed d.toList d[d.size / 2]! := by
  have hh : d.size / 2 < d.size := by omega
  have hle : ∀ i j, i ≤ j → j < d.size → d[i]! ≤ d[j]! := fun i j hij hj => by
    rcases Nat.lt_or_eq_of_le hij with h1 | h1
    · have := h i j (Nat.zero_le _) h1 hj
      unfold ltInt at this
      simp at this
      exact this
    · subst h1; exact Int.le_refl _
  have hge : ∀ i, i < d.size → d.toList[i]? = some d[i]! := fun i hi => by simp [hi]
  have hlen : d.toList.length = d.size := by simp
  refine ⟨?_, ?_, ?_⟩
  · exact List.mem_of_getElem? (hge _ hh)
  · rw [hlen]
    have e : d.toList = d.toList.take (d.size / 2) ++ d.toList.drop (d.size / 2) := (List.take_append_drop _ _).symm
    rw [e, List.countP_append]
    have h3 : (d.toList.drop (d.size / 2)).countP (fun x => decide (x < d[d.size / 2]!)) = 0 := List.countP_eq_zero.2 (fun x hx => by
      obtain ⟨i, hi⟩ := List.getElem?_of_mem hx
      rw [List.getElem?_drop] at hi
      have hil := (List.getElem?_eq_some_iff.1 hi).1
      rw [hlen] at hil
      rw [hge _ hil] at hi
      injection hi with hi
      have := hle (d.size / 2) (d.size / 2 + i) (by omega) hil
      simp
      omega)
    have h4 := List.countP_le_length (p := fun x => decide (x < d[d.size / 2]!)) (l := d.toList.take (d.size / 2))
    rw [List.length_take] at h4
    omega
  · rw [hlen]
    have e : d.toList = d.toList.take (d.size / 2 + 1) ++ d.toList.drop (d.size / 2 + 1) := (List.take_append_drop _ _).symm
    rw [e, List.countP_append]
    have h3 : (d.toList.take (d.size / 2 + 1)).countP (fun x => decide (x ≤ d[d.size / 2]!)) = (d.toList.take (d.size / 2 + 1)).length := List.countP_eq_length.2 (fun x hx => by
      obtain ⟨i, hi⟩ := List.getElem?_of_mem hx
      rw [List.getElem?_take] at hi
      split at hi
      · rename_i hlt
        have hil := (List.getElem?_eq_some_iff.1 hi).1
        rw [hlen] at hil
        rw [hge _ hil] at hi
        injection hi with hi
        have := hle i (d.size / 2) (by omega) hh
        simp
        omega
      · cases hi)
    rw [h3, List.length_take, hlen]
    omega
theorem extract_all (d : Array Int) : (d.extract 0 d.size).toList = d.toList := by simp
theorem isMed_of {d d' : Array Int} (hp : PermIn 0 d.size d d') (hs : SortedIn ltInt 0 d.size d') (h0 : 0 < d.size) : IsMed d.toList d'[d.size / 2]! := by
  have hsz := hp.1
  have h := isMed_sorted (d := d') (by rw [hsz]; exact hs) (by rw [hsz]; exact h0)
  rw [hsz] at h
  have hperm := hp.2.2
  rw [extract_all, ← hsz, extract_all] at hperm
  exact h.perm hperm.symm
/-- there is one -/
theorem isMed_ex (l : List Int) (h0 : 0 < l.length) : ∃ m, IsMed l m := by
  have h := insertionSort_holds (lt := ltInt) swo_ltInt l.toArray 0 l.toArray.size (Nat.zero_le _) (Nat.le_refl _)
  exact ⟨_, by simpa using isMed_of h.1 h.2 (by simpa using h0)⟩
end Go.Proofs.Ytfmkegblhpnfcaa

namespace Go.Proofs.Ytfmkegblhpnfcaa
open Go.RowKit Go.Sort
set_option maxRecDepth 100000

def uc (z : Int) : List Value := [.int .u64 z]
theorem uc_one (z : Int) : ∀ u ∈ uc z, u.oneCell' = true := by intro u hu; simp [uc] at hu; subst hu; rfl
def uok (_ : World) (z : Int) : Prop := (Lit.int .u64 z).wf = true
/-- numbers that lie from A on -/
def UL (w : World) (A : Option Addr) (n : Nat) (l : List Int) : Prop := Lst 1 uc uok w A n l
theorem uok_iff {w : World} {z : Int} (h : uok w z) : 0 ≤ z ∧ z < 18446744073709551616 := by
  obtain ⟨n, rfl, hn⟩ := u64_of h
  omega
theorem el_u64 : ElTy Try.prog 61 1 8 := ElTy.of (by kernel_rfl)
section
variable {w w' : World} {A : Option Addr} {n c : Nat} {l : List Int} {S : List Nat}
theorem UL.keep (h : UL w A n l) (hf : Fr S w w') (hA : ∀ a, A = some a → ¬ a.block ∈ S) : UL w' A n l := Lst.keep h hf hA (fun _ _ x => x)
theorem UL.range (h : UL w A n l) : ∀ z ∈ l, 0 ≤ z ∧ z < 18446744073709551616 := fun z hz => uok_iff (w := w) (h.2.1 z hz).2
theorem UL.take (h : UL w A n l) {m : Nat} (hm : m ≤ n) : UL w A m (l.take m) := Lst.take h hm
theorem UL.lt (h : UL w A n l) (hn : 0 < n) : ∀ a, A = some a → a.block < w.heap.size := by
  intro a ha
  obtain ⟨ad, v, e, hv, hl, _, hc⟩ := h.at (i := 0) hn
  rw [ha] at e
  injection e with e
  subst e
  have := World.block_lt_of_cell? w _ (hc 0 (.int .u64 v) rfl)
  rwa [add_block, add_block] at this
/-- one of them, where it lies -/
theorem UL.cell {b off : Nat} (h : UL w (some ⟨b, off, none⟩) n l) {j : Nat} {v : Int} (hv : l[j]? = some v) : w.cell? ⟨b, off + j, none⟩ = some (.int .u64 v) := by
  have hj : j < n := by have := (List.getElem?_eq_some_iff.1 hv).1; rw [h.1] at this; exact this
  obtain ⟨ad, e, hc⟩ := h.2.2 (by omega)
  injection e with e
  subst e
  have := hc j v hv 0 (.int .u64 v) rfl
  rw [Nat.mul_one, Nat.add_zero] at this
  unfold Addr.add at this
  split at this
  · subst j; simpa using this
  · simpa using this
theorem UL.own (h : w.ownsRow 0 61 1 (.slice A n c) n (l.flatMap uc)) (hl : l.length = n) (hk : ∀ z ∈ l, 0 ≤ z ∧ z < 18446744073709551616) : UL w A n l :=
  Lst.of_own h hl (fun v hv => ⟨rfl, by have := hk v hv; simp only [uok, Lit.wf, Bool.and_eq_true, decide_eq_true_eq]; exact ⟨by show (0 : Int) ≤ v; omega, by show v ≤ 18446744073709551615; omega⟩⟩)
/-- a row of its own may be sorted -/
theorem Hu.of_own (h : w.ownsRow 0 61 1 (.slice A n c) n (l.flatMap uc)) (hl : l.length = n) (hn : 0 < n) : ∃ g, A = some ⟨g, 0, none⟩ ∧ g < w.heap.size ∧ Hu w g 0 l.toArray := by
  obtain ⟨g, cap, hv, _, hlt⟩ := h.form hn
  have hA : A = some ⟨g, 0, none⟩ := by injection hv
  subst hA
  refine ⟨g, rfl, hlt, fun j hj => ?_⟩
  have hj' : j < l.length := by simpa using hj
  have hc := h.cells (g := g) rfl j (.int .u64 l[j]) (by
    have := flat_at (cells := uc) (k := 1) (fun _ _ => rfl) (List.getElem?_eq_getElem hj') (j := 0) (x := .int .u64 l[j]) rfl
    simpa using this)
  have hg : l.toArray[j]! = l[j] := by simp [hj']
  rw [hg, Nat.zero_add]
  refine ⟨by
    have e : (⟨g, 0, none⟩ : Addr).add j = ⟨g, j, none⟩ := by unfold Addr.add; split <;> simp_all
    rw [← e]; exact hc, ?_⟩
  rcases h.2 with ⟨_, h0⟩ | ⟨g', cap', cur, hv', _, hh, _⟩
  · omega
  · injection hv' with e1
    injection e1 with e1
    injection e1 with e1
    subst e1
    simp [World.frozen?, hh]
end
theorem wpList_append_one3 {P : Program} {ops : Array Oper} {rest : List Oper} {o : Oper} {a : Act} {w : World} {Q : Exit → Act → World → Prop} (hg : o.guard = none) (s x : Operand) (t e : TypeId)
    (ho : o.op = .call { callee := .builtin .append, args := #[s, x], argTypes := #[t, t] }) (ht : P.underlying t = some (.slice e)) (k bytes : Nat) (he : ElTy P e k bytes) (hk : 0 < k)
    (base : Nat) (v : Value) (n : Nat) (xs cs : List Value) (hs : a.eval s = v) (hown : w.ownsRow base e k v n xs) (hbase : base ≤ w.heap.size) (hcl : cs.length = k) (h1 : ∀ u ∈ cs, u.oneCell' = true)
    (g : Nat) (t' : TypeId) (hx : a.eval x = .slice (some ⟨g, 0, none⟩) 1 1) (hb : Blk w g t' cs.toArray) (hn : n < 1000000) (hby : bytes ≤ 1000)
    (h : ∀ A c w', w'.ownsRow base e k (.slice A (n + 1) c) (n + 1) (xs ++ cs) → Fr v.ownBlock.toList w w' → ((Value.slice A (n + 1) c).ownBlock = v.ownBlock ∨ (Value.slice A (n + 1) c).ownBlock = some w.heap.size) → wpList P ops Q rest (a.put o.dst (.slice A (n + 1) c)) w') : wpList P ops Q (o :: rest) a w := by
  obtain ⟨i, z, hi, hz, hzs, hsz, hbs⟩ := he
  refine wpList_append_lies w hg s x t ho base e i z k bytes ht hi hz hsz hbs hzs hk v n xs hs hown ⟨g, 0, none⟩ 1 1 cs hx (by omega) (fun j u hu => ?_) h1 (by omega) (by simp only [maxLen]; omega)
    (Nat.le_trans (Nat.mul_le_mul (show n + 1 ≤ 1000000 by omega) hby) (by decide)) hbase _ rfl (fun g' cap w' h2 h3 h4 _ => ?_)
  · have hadd : (⟨g, 0, none⟩ : Addr).add j = ⟨g, j, none⟩ := by unfold Addr.add; split <;> simp_all
    rw [hadd, hb.cell j]
    simpa using hu
  · exact h _ _ w' h2 ((Fr.refl _ w).grown h3 (fun y hy _ => by simp [hy])) (h4.imp (fun e => e.symm) (fun e => by rw [e]; rfl))
section
variable {P : Program} (w : World)
/-- a list behind a list of the call's own -/
theorem run_append_ownl {α : Type} {cells : α → List Value} {ok : World → α → Prop} (hone : ∀ v, ∀ u ∈ cells v, u.oneCell' = true) (t ty e : TypeId) (k bytes : Nat) (ht : P.underlying t = some (.slice e)) (he : ElTy P e k bytes) (hk : 0 < k) (hby : bytes ≤ 1000)
    (V : Option Addr) (n c0 : Nat) (xs : List α) (hown : w.ownsRow 0 e k (.slice V n c0) n (xs.flatMap cells)) (A : Option Addr) (m c : Nat) (l : List α) (hr : Lst k cells ok w A m l) (hm : n + m ≤ 1000000) :
    ∃ A' c' w', (Builtin.append_ #[t, t] ty #[.slice V n c0, .slice A m c]).run P w = .ok (.slice A' (n + m) c') w' ∧ w'.ownsRow 0 e k (.slice A' (n + m) c') (n + m) ((xs ++ l).flatMap cells) ∧ Fr (bk V) w w' ∧ ∀ x ∈ bk A', x ∈ bk V ∨ w.heap.size ≤ x := by
  obtain ⟨i, z, hi, hz, hzs, hsz, hbs⟩ := he
  rw [List.flatMap_append]
  suffices h : ∃ v' w', (Builtin.append_ #[t, t] ty #[.slice V n c0, .slice A m c]).run P w = .ok v' w' ∧ w'.ownsRow 0 e k v' (n + m) (xs.flatMap cells ++ l.flatMap cells) ∧ w.grownBy w' (Value.slice V n c0).ownBlock ∧ (v'.ownBlock = (Value.slice V n c0).ownBlock ∨ v'.ownBlock = some w.heap.size) by
    obtain ⟨v', w', h1, h2, h3, h4⟩ := h
    obtain ⟨A', c', rfl⟩ := own_form h2
    refine ⟨A', c', w', h1, h2, (Fr.refl _ w).grown h3 (fun y hy _ => by rw [← bk_own V n c0, hy]; simp), fun x hx => ?_⟩
    rw [← bk_own A' (n + m) c'] at hx
    rcases h4 with h4 | h4
    · rw [h4, bk_own V n c0] at hx; exact .inl hx
    · rw [h4] at hx; simp at hx; exact .inr (by omega)
  rcases A with _ | ad
  · have hm0 : m = 0 := by
      rcases Nat.eq_zero_or_pos m with h0 | h0
      · exact h0
      · obtain ⟨ad, h, _⟩ := hr.2.2 h0
        cases h
    subst hm0
    have hn : l = [] := List.eq_nil_of_length_eq_zero hr.1
    subst hn
    exact ⟨_, w, run_append_nothing w 0 t ty e i k ht hi _ n _ hown c, by simpa using hown, World.grownBy.refl w _, .inl rfl⟩
  · obtain ⟨v', w', hrun, h2, h3, _, h5⟩ := run_append_own_at (P := P) w 0 t ty e i z k bytes ht hi hz hsz hbs hzs hk _ n _ hown ad m c (l.flatMap cells)
      (by rw [cells_flat_len (fun v hv => (hr.2.1 v hv).1), hr.1]) (hr.flat hk) (cells_one hone l) (by simp only [maxLen]; omega)
      (Nat.le_trans (Nat.mul_le_mul hm hby) (by decide)) (Nat.zero_le _)
    exact ⟨v', w', hrun, h2, h3, h5⟩
theorem wp_append_ownl {α : Type} {cells : α → List Value} {ok : World → α → Prop} {o : Oper} {a : Act} {K : Act → World → Prop} {Q : Exit → Act → World → Prop} (s x : Operand) (t : TypeId)
    (ho : o.op = .call { callee := .builtin .append, args := #[s, x], argTypes := #[t, t] }) (e : TypeId) (k bytes : Nat) (ht : P.underlying t = some (.slice e)) (he : ElTy P e k bytes) (hk : 0 < k) (hby : bytes ≤ 1000)
    (hone : ∀ v, ∀ u ∈ cells v, u.oneCell' = true) (V : Option Addr) (n c0 : Nat) (xs : List α) (hs : a.eval s = .slice V n c0) (hown : w.ownsRow 0 e k (.slice V n c0) n (xs.flatMap cells)) (A : Option Addr) (m c : Nat) (l : List α) (hx : a.eval x = .slice A m c) (hr : Lst k cells ok w A m l) (hm : n + m ≤ 1000000)
    (h : ∀ A' c' w', w'.ownsRow 0 e k (.slice A' (n + m) c') (n + m) ((xs ++ l).flatMap cells) → Fr (bk V) w w' → (∀ x ∈ bk A', x ∈ bk V ∨ w.heap.size ≤ x) → K (a.put o.dst (.slice A' (n + m) c')) w') : Oper.wp P o a w K Q := by
  obtain ⟨A', c', w', hrun, h2, h3, h4⟩ := run_append_ownl (P := P) w hone t o.type e k bytes ht he hk hby V n c0 xs hown A m c l hr hm
  unfold Oper.wp execOp
  simp only [ho, resolve, invoke, builtin, Sem.run_bind, Sem.run_pure, Result.andThen_ok, List.map_toArray, List.map_cons, List.map_nil, hs, hx, hrun]
  exact h A' c' w' h2 h3 h4
theorem wpList_append_ownl {α : Type} {cells : α → List Value} {ok : World → α → Prop} {ops : Array Oper} {rest : List Oper} {o : Oper} {a : Act} {Q : Exit → Act → World → Prop} (hgd : o.guard = none) (s x : Operand) (t : TypeId)
    (ho : o.op = .call { callee := .builtin .append, args := #[s, x], argTypes := #[t, t] }) (e : TypeId) (k bytes : Nat) (ht : P.underlying t = some (.slice e)) (he : ElTy P e k bytes) (hk : 0 < k) (hby : bytes ≤ 1000)
    (hone : ∀ v, ∀ u ∈ cells v, u.oneCell' = true) (V : Option Addr) (n c0 : Nat) (xs : List α) (hs : a.eval s = .slice V n c0) (hown : w.ownsRow 0 e k (.slice V n c0) n (xs.flatMap cells)) (A : Option Addr) (m c : Nat) (l : List α) (hx : a.eval x = .slice A m c) (hr : Lst k cells ok w A m l) (hm : n + m ≤ 1000000)
    (h : ∀ A' c' w', w'.ownsRow 0 e k (.slice A' (n + m) c') (n + m) ((xs ++ l).flatMap cells) → Fr (bk V) w w' → (∀ x ∈ bk A', x ∈ bk V ∨ w.heap.size ≤ x) → wpList P ops Q rest (a.put o.dst (.slice A' (n + m) c')) w') : wpList P ops Q (o :: rest) a w := by
  refine wpList_plain hgd fun K hK => ?_
  obtain ⟨A', c', w', hrun, h2, h3, h4⟩ := run_append_ownl (P := P) w hone t o.type e k bytes ht he hk hby V n c0 xs hown A m c l hr hm
  unfold Oper.wp execOp
  simp only [ho, resolve, invoke, builtin, Sem.run_bind, Sem.run_pure, Result.andThen_ok, List.map_toArray, List.map_cons, List.map_nil, hs, hx, hrun]
  exact hK _ _ (h A' c' w' h2 h3 h4)
end
theorem UL.cut {w : World} {A : Option Addr} {n : Nat} {l : List Int} (h : UL w A n l) {k cap : Nat} (hk : k ≤ n) (hc : n ≤ cap) : UL w (if cap = k then A else A.map (·.add k)) (n - k) (l.drop k) := by
  refine ⟨by rw [List.length_drop, h.1], fun v hv => h.2.1 v (List.mem_of_mem_drop hv), fun hn => ?_⟩
  obtain ⟨ad, rfl, hcell⟩ := h.2.2 (by omega)
  rw [if_neg (by omega)]
  refine ⟨ad.add k, rfl, fun i v hv j x hx => ?_⟩
  rw [add_add]
  rw [List.getElem?_drop] at hv
  have := hcell (k + i) v hv j x hx
  rw [Nat.mul_one] at this
  rw [Nat.mul_one, show k + (i + j) = k + i + j by omega]
  exact this
theorem UL.get {w : World} {A : Option Addr} {n k : Nat} {l : List Int} (h : UL w A n l) (hk : k < n) : ∃ ad v, A = some ad ∧ l[k]? = some v ∧ 0 ≤ v ∧ v < 18446744073709551616 ∧ w.cell? (ad.add k) = some (.int .u64 v) := by
  obtain ⟨ad, v, e, hv, _, hok, hc⟩ := h.at hk
  have hr := uok_iff hok
  have := hc 0 (.int .u64 v) rfl
  rw [add_add, Nat.mul_one, Nat.add_zero] at this
  exact ⟨ad, v, e, hv, hr.1, hr.2, this⟩
theorem own_any {w : World} {b b' : Nat} {e : TypeId} {k n : Nat} {v : Value} {xs : List Value} (h : w.ownsRow b e k v n xs) (hb : b' ≤ b) : w.ownsRow b' e k v n xs := by
  refine ⟨h.1, ?_⟩
  rcases h.2 with h | ⟨g, cap, cur, h1, h2, h3⟩
  · exact .inl h
  · exact .inr ⟨g, cap, cur, h1, by omega, h3⟩
theorem own_ge {w : World} {b : Nat} {e : TypeId} {k n c : Nat} {A : Option Addr} {xs : List Value} (h : w.ownsRow b e k (.slice A n c) n xs) : ∀ x ∈ bk A, b ≤ x := by
  intro x hx
  rcases h.2 with ⟨h, _⟩ | ⟨g, cap, cur, h1, h2, h3⟩
  · injection h with h; subst h; simp [bk] at hx
  · injection h1 with h; subst h; simp [bk] at hx; omega
theorem own_capn {w : World} {b : Nat} {e : TypeId} {k n c : Nat} {A : Option Addr} {xs : List Value} (h : w.ownsRow b e k (.slice A n c) n xs) : n ≤ c := by
  rcases h.2 with ⟨h, h0⟩ | ⟨g, cap, cur, h1, h2, h3, h4, _⟩
  · omega
  · injection h1 with _ _ e; omega

end Go.Proofs.Ytfmkegblhpnfcaa

namespace Go.Proofs.Ytfmkegblhpnfcaa
set_option maxRecDepth 100000
open Go.RowKit
/-- the votes behind Add -/
def addB (b : Bool) (v : Tv) (T : List Tv) : List Tv := if b = true then T else v :: T
theorem take_any {l : List Tv} {q : Nat} {v : Tv} (h : l[q]? = some v) (p : Tv → Bool) : (l.take (q + 1)).any p = ((l.take q).any p || p v) := by
  rw [List.take_add_one, h, List.any_append]
  simp
set_option maxHeartbeats 4000000 in
theorem radd_go (w : World) (S : List Nat) (g : Nat) (f c : Int) (T : List Tv) (h : Rt w S g f c T) (hf : 0 ≤ f ∧ f ≤ 1000) (hT : T.length < 1000000) (k r : Int) (pn : Nat) (hs : List UInt8) (hh : hs.length = 32) (hA : argV (3 * f + 1) k r pn = true) :
    Calls Try.prog 28 #[.pointer (some ⟨g, 0, none⟩), .int .i64 k, .int .i64 r, .int .i64 (pn : Nat), .agg (hs.map by8).toArray] w fun e w' => e = .returned (.bool (!hasV T k r pn)) ∧ (∃ S', Rt w' S' g f c (addB (hasV T k r pn) ⟨k, r, pn, hs⟩ T) ∧ ∀ y ∈ S', y ∈ S ∨ w.heap.size ≤ y) ∧ Fr [g] w w' := by
  obtain ⟨wa, hwa⟩ : ∃ wa, wa = w.alloc (Obj.cells (hs.map by8).toArray 30) := ⟨_, rfl⟩
  have hf0 : Fr [] w wa := by rw [hwa]; exact (Fr.refl [] w).alloc _
  have hb1 : Blk wa w.heap.size 30 (hs.map by8).toArray := by rw [hwa]; exact Blk.new _ _ _
  have hka := h.keep hf0 (by simp)
  have HKA := Lib.hid hka
  obtain ⟨A, d, hS, h1, h2, h3⟩ := hka
  have hS0 := h.lt
  have HSS := Lib.hid (show g ∈ S by rw [hS]; simp)
  have HC1 : Hid (wa.cell? ⟨g, 2, none⟩ = some (.slice A T.length d)) := Lib.hid ((h1.cell 2).trans rfl)
  have HBK := Lib.hid h1
  have HCF : Hid (wa.rangeAt g 0 [.int .i64 f, .int .i64 c]) := Lib.hid (fun j x hx => by
    have := h1.cell j
    rcases j with _ | _ | j
    · simp at hx; subst hx; simpa using this
    · simp at hx; subst hx; simpa using this
    · simp at hx)
  have HL := Lib.hid h2
  have HTL := Lib.hid hT
  have HRR := Lib.hid hb1.range
  have HWA := Lib.hid hwa
  have HF0 := Lib.hid hf0
  have HH := Lib.hid hh
  have HFF := Lib.hid hf
  obtain ⟨N, hN⟩ : ∃ N, N = T.length := ⟨_, rfl⟩
  obtain ⟨L, hLd⟩ : ∃ L, L = T.reverse := ⟨_, rfl⟩
  obtain ⟨P, hP⟩ : ∃ P : Tv → Bool, P = fun v => decide (v.k = k ∧ v.r = r ∧ v.p = pn) := ⟨_, rfl⟩
  have HPP : Hid (∀ v, P v = decide (v.k = k ∧ v.r = r ∧ v.p = pn)) := Lib.hid (by rw [hP]; intro v; rfl)
  have HCE : Hid (hasV T k r pn = L.any P) := Lib.hid (by rw [hLd, List.any_reverse, hP]; rfl)
  have HLN : Hid (L.length = N) := Lib.hid (by rw [hLd, hN, List.length_reverse])
  have HLT := Lib.hid hLd
  have HNT := Lib.hid hN
  rw [← hN] at HC1 HL HTL HBK
  rw [← hLd] at HL
  have HAR : Hid ((k = 1 ∨ k = 2) ∧ 0 ≤ r ∧ r ≤ 1048576 ∧ (0 : Int) ≤ pn ∧ (pn : Int) < 3 * f + 1) := Lib.hid (by unfold argV at hA; exact of_decide_eq_true hA)
  have HOLD := Lib.hid h
  clear h h1 h2 h3 hN hLd hT hwa hf0 hb1 hh hf hA hP hS hS0
  generalize hasV T k r pn = res at *
  go_enter Try.func28, Try.ntmps28
  go_upto_region 1 with (fail)
  change Code.wp _ _ _ _ (w.alloc (Obj.cells (hs.map by8).toArray 30))
  rw [← HWA.out]
  have hk1 : decide (k < 1) = false := decide_eq_false (by have := HAR.out; omega)
  have hk2 : decide (2 < k) = false := decide_eq_false (by have := HAR.out; omega)
  have hr1 : decide (r < 0) = false := decide_eq_false (by have := HAR.out; omega)
  have hr2 : decide (1048576 < r) = false := decide_eq_false (by have := HAR.out; omega)
  have hp1 : decide ((pn : Int) < 0) = false := decide_eq_false (by omega)
  have hp2 : decide (3 * f + 1 ≤ (pn : Int)) = false := decide_eq_false (by have := HAR.out; omega)
  go_wp2_with (refine wpList_row rfl 24 _ rfl _ _ rfl _ HCF.out row_conf2 ?_)
  refine (tn_any f c HFF.out wa).mono ?_
  rintro e w1 ⟨rfl, hf1⟩
  have HF1 := Lib.hid hf1
  have c1 := HF1.out.cell HC1.out (by simp)
  clear hf1
  go_wp2_with fail
  go_loopw [44] (fun i wr => ∃ (q : Nat), q ≤ N ∧ i = .int .i64 q ∧ (L.take q).any P = false ∧ Hid (Fr [] wa wr)) (fun i _ => N - (intOf i).toNat)
  case atStart => exact ⟨0, by omega, rfl, by simp, HF1⟩
  case round =>
    obtain ⟨q, hq, rfl, hn, HF⟩ := hrel
    rename World => wr
    clear c1 hk1 hk2 hr1 hr2 hp1 hp2
    have HNq := Lib.hid hn
    clear hn
    have c1 := HF.out.cell HC1.out (by simp)
    have HRW := Lib.hid (HF.out.range HRR.out (by simp))
    have HSL : Hid ((hs.map by8).length = 32) := Lib.hid (by rw [List.length_map]; exact HH.out)
    by_cases hlt : q < N
    · have hq64 : (q : Int) < 1048576 := by have := HTL.out; omega
      have hN64 : (N : Int) ≤ 9223372036854775807 := by have := HTL.out; omega
      have hq0 : (0 : Int) ≤ q := by omega
      obtain ⟨ad, v, hA, hv, hvl, ck, cr, cp, _⟩ := (HL.out.keep HF.out).cell hlt
      subst hA
      have HTK := Lib.hid (take_any hv P)
      have HVM := Lib.hid (List.mem_of_getElem? hv)
      clear hv hvl
      by_cases h1 : v.k = k
      · have b1 : (v.k == k) = true := by simpa using h1
        by_cases h2 : v.r = r
        · have b2 : (v.r == r) = true := by simpa using h2
          by_cases h3 : v.p = pn
          · have HT3 : Hid (res = true) := Lib.hid (by rw [HCE.out]; exact List.any_eq_true.2 ⟨v, HVM.out, by rw [HPP.out]; simp [h1, h2, h3]⟩)
            have b3 : ((v.p : Int) == (pn : Int)) = true := by simp [h3]
            clear h1 h2 h3
            have HFN := Lib.hid (HF0.out.and HF.out (by simp))
            go_wp2_with fail
            go_ret
            rw [HT3.out]
            exact ⟨rfl, ⟨S, by exact HOLD.out.keep HFN.out (by simp), fun y hy => Or.inl hy⟩, HFN.out.mono (by simp)⟩
          · have HT3 : Hid ((L.take (q + 1)).any P = false) := Lib.hid (by rw [HTK.out, HNq.out, HPP.out]; simp [h3])
            have b3 : ((v.p : Int) == (pn : Int)) = false := by simp; omega
            clear h1 h2 h3
            go_wp2_with fail
            go_roundw
            case rel => exact ⟨q + 1, by omega, by go_num, HT3.out, HF⟩
            case measure => simp [intOf]; omega
        · have b2 : (v.r == r) = false := by simpa using h2
          have HT3 : Hid ((L.take (q + 1)).any P = false) := Lib.hid (by rw [HTK.out, HNq.out, HPP.out]; simp [h2])
          clear h1 h2
          go_wp2_with fail
          go_roundw
          case rel => exact ⟨q + 1, by omega, by go_num, HT3.out, HF⟩
          case measure => simp [intOf]; omega
      · have b1 : (v.k == k) = false := by simpa using h1
        have HT3 : Hid ((L.take (q + 1)).any P = false) := Lib.hid (by rw [HTK.out, HNq.out, HPP.out]; simp [h1])
        clear h1
        go_wp2_with fail
        go_roundw
        case rel => exact ⟨q + 1, by omega, by go_num, HT3.out, HF⟩
        case measure => simp [intOf]; omega
    · have hqe : q = N := by omega
      have hd : decide (q < N) = false := decide_eq_false hlt
      have HRES : Hid (res = false) := Lib.hid (by rw [HCE.out]; have := HNq.out; rwa [hqe, List.take_of_length_le (Nat.le_of_eq HLN.out)] at this)
      have HLW := Lib.hid (HL.out.keep HF.out)
      have HBW := Lib.hid (HBK.out.keep HF.out (by simp))
      have HFW := Lib.hid (HF0.out.and HF.out (by simp))
      have HBU := Lib.hid (built_rv k r pn hs HH.out)
      obtain ⟨D, hD⟩ : ∃ D, D = rcells ⟨k, r, pn, hs⟩ := ⟨_, rfl⟩
      have HD : Hid (D.length = 35) := Lib.hid (by rw [hD]; exact rv_len HH.out)
      have HD1 : Hid (∀ u ∈ D, u.oneCell' = true) := Lib.hid (by rw [hD]; exact rv_one _)
      have HDD := Lib.hid hD
      rw [← hD] at HBU
      have HGL : Hid (g < wr.heap.size) := Lib.hid HBW.out.lt
      have HNN : Hid (N < 1000000) := HTL
      clear hD hlt
      go_upto_region 9 with (fail)
      refine wp_region_till 15 (Fr [g] wr) (Fr [] wr) (by kernel_rfl) (Fr.drew (Fr.refl _ wr)) (Fr.drew (Fr.refl _ wr)) (fun hA hB => ?_)
      generalize wr.drew = wd at *
      refine till_run (i := 0) (v := ?_) rfl (by kernel_rfl) (by rfl) (fun _ _ _ h => h) hA hB (fun w1 hw1 => ?_) ?_
      rotate_left 1
      · skip
        go_simp
        (try (first | with_reducible rfl | (apply And.intro <;> rfl)))
      simp only [Act.put, List.setIfInBounds_toArray, List.set_cons_zero, List.set_cons_succ]
      refine till_run (i := 1) (v := ?_) rfl (by kernel_rfl) (by rfl) (fun _ _ _ h => h) hA hB (fun w1 hw1 => ?_) ?_
      rotate_left 1
      · skip
        go_simp
        (try (first | with_reducible rfl | (apply And.intro <;> rfl)))
      simp only [Act.put, List.setIfInBounds_toArray, List.set_cons_zero, List.set_cons_succ]
      refine till_run (i := 2) (v := ?_) rfl (by kernel_rfl) (by rfl) (fun _ _ _ h => h) hA hB (fun w1 hw1 => ?_) ?_
      rotate_left 1
      · skip
        go_simp
        (try (first | with_reducible rfl | (apply And.intro <;> rfl)))
      simp only [Act.put, List.setIfInBounds_toArray, List.set_cons_zero, List.set_cons_succ]
      refine till_run (i := 3) (v := ?_) rfl (by kernel_rfl) (by rfl) (fun _ _ _ h => h) hA hB (fun w1 hw1 => ?_) ?_
      rotate_left 1
      · skip
        go_simp
        (try (first | with_reducible rfl | (apply And.intro <;> rfl)))
      simp only [Act.put, List.setIfInBounds_toArray, List.set_cons_zero, List.set_cons_succ]
      refine till_run (i := 4) (v := ?_) rfl (by kernel_rfl) (by rfl) (fun _ _ _ h => h) hA hB (fun w1 hw1 => ?_) ?_
      rotate_left 1
      · skip
        have hcw0 := hw1.cell (c1) (by first | (simp; done) | exact HNS.out | exact HNW.out | (intro hm; have hlt := HSB.out _ hm; (try dsimp only at hlt); omega))
        go_simp
        (try (first | with_reducible rfl | (apply And.intro <;> rfl)))
      simp only [Act.put, List.setIfInBounds_toArray, List.set_cons_zero, List.set_cons_succ]
      refine till_run (i := 6) (v := ?_) rfl (by kernel_rfl) (by rfl) (fun _ _ _ h => h) hA hB (fun w1 hw1 => ?_) ?_
      rotate_left 1
      · skip
        go_simp
        (try (first | with_reducible rfl | (apply And.intro <;> rfl)))
      simp only [Act.put, List.setIfInBounds_toArray, List.set_cons_zero, List.set_cons_succ]
      refine till_run (i := 7) (v := ?_) rfl (by kernel_rfl) (by rfl) (fun _ _ _ h => h) hA hB (fun w1 hw1 => ?_) ?_
      rotate_left 1
      · skip
        go_simp
        (try (first | with_reducible rfl | (apply And.intro <;> rfl)))
      simp only [Act.put, List.setIfInBounds_toArray, List.set_cons_zero, List.set_cons_succ]
      refine till_run (i := 8) (v := ?_) rfl (by kernel_rfl) (by rfl) (fun _ _ _ h => h) hA hB (fun w1 hw1 => ?_) ?_
      rotate_left 1
      · skip
        go_simp
        (try (first | with_reducible rfl | (apply And.intro <;> rfl)))
      simp only [Act.put, List.setIfInBounds_toArray, List.set_cons_zero, List.set_cons_succ]
      refine till_row (i := 9) rfl (by kernel_rfl) (by rfl) _ _ rfl _ _ rfl _ (fun w1 hw1 => hw1.range (HRW.out) (by first | (simp; done) | exact HNS.out | exact HNW.out | (intro hm; have hlt := HSB.out _ hm; (try dsimp only at hlt); omega))) (row_hash.of HSL.out) (fun _ _ _ h => h) hA hB ?_
      simp only [Act.put, List.setIfInBounds_toArray, List.set_cons_zero, List.set_cons_succ]
      refine till_build (i := 10) rfl (by kernel_rfl) (by rfl) _ _ rfl _ _ (HBU.out) rfl (fun _ _ _ h => h) hA hB ?_
      simp only [Act.put, List.setIfInBounds_toArray, List.set_cons_zero, List.set_cons_succ]
      refine till_twoT (i := 5) (j := 11) rfl rfl (by kernel_rfl) (by rfl) (by rfl) (fun K hK => ?_) (fun K hK => ?_)
      · refine wp_append_lstT (α := Tv) (ok := fun _ (v : Tv) => v.h.length = 32) _ _ 45 rfl 76 35 56 Try.underlying45 el_rv (by decide) (by decide) rv_one rfl A N d L rfl (HLW.out.keep hB) (by have := HNN.out; omega) ?_
        intro A1 c9 w1 hn1
        have HO1 := Lib.hid hn1.1
        have HFN := Lib.hid hn1.2.1
        have HNA : Hid (∀ x ∈ bk A1, wr.heap.size ≤ x) := Lib.hid (fun x hx => by have := hn1.2.2 x hx; have := hB.size; omega)
        clear hn1
        refine hK.out _ _ (hA.trans HFN.out (fun x hx _ => by simp at hx)) (hB.trans HFN.out (fun x hx _ => by simp at hx)) (fun hA hB => ?_)
        clear hK K
        simp only [Act.put, List.setIfInBounds_toArray, List.set_cons_zero, List.set_cons_succ]
        refine till_stepT (i := 11) rfl (by kernel_rfl) (by rfl) (fun K hK => ?_)
        refine wp_build_one 45 76 _ rfl Try.underlying45 D 56 (by rw [HD.out]; exact el_rv) rfl (by rw [HD.out]; decide) (by rw [HD.out]; decide) ?_
        refine hK.out _ _ (hA.alloc _) (hB.alloc _) (fun hA hB => ?_)
        clear hK K
        simp only [Act.put, List.setIfInBounds_toArray, List.set_cons_zero, List.set_cons_succ]
        have HBV : Hid (Blk (w1.alloc (Obj.cells D.toArray 76)) w1.heap.size 76 D.toArray) := Lib.hid (Blk.new _ _ _)
        have HO2 := Lib.hid (HO1.out.alloc (Obj.cells D.toArray 76))
        clear HFN
        generalize w1.alloc (Obj.cells D.toArray 76) = w2 at *
        generalize w1.heap.size = gB at *
        refine till_stepT (i := 12) rfl (by kernel_rfl) (by rfl) (fun K hK => ?_)
        refine wp_append_oneT _ _ 45 76 rfl Try.underlying45 35 56 el_rv (by decide) 0 (.slice A1 N c9) N _ D rfl HO2.out (Nat.zero_le _) HD.out HD1.out gB 76 rfl HBV.out HNN.out (by decide) ?_
        intro A9 d9 w9 ho9 hf9 hb9
        rw [bk_own] at hf9
        have HA9 : Hid (∀ q ∈ bk A9, wr.heap.size ≤ q) := Lib.hid (by
          intro q hq
          rw [← bk_own A9 (N + 1) d9] at hq
          rcases hb9 with h | h
          · rw [h, bk_own] at hq; exact HNA.out q hq
          · rw [h] at hq; simp at hq; have := hA.size; omega)
        have HO9 := Lib.hid ho9
        refine hK.out _ _ (hA.trans hf9 (fun x hx hl => absurd (HNA.out x hx) (by omega))) (hB.trans hf9 (fun x hx hl => absurd (HNA.out x hx) (by omega))) (fun hA hB => ?_)
        clear hK K ho9 hf9 hb9
        simp only [Act.put, List.setIfInBounds_toArray, List.set_cons_zero, List.set_cons_succ]
        have HBT := Lib.hid (HBW.out.keep hB (by simp))
        refine till_stepT (i := 13) rfl (by kernel_rfl) (by rfl) (fun K hK => ?_)
        refine wp_run (v := ?_) (w' := ?_) ?_ ?_
        rotate_left 2
        · go_simp
          (try (first | with_reducible rfl | (apply And.intro <;> rfl)))
        refine hK.out _ _ hA hB (fun hA hB => ?_)
        clear hK K
        simp only [Act.put, List.setIfInBounds_toArray, List.set_cons_zero, List.set_cons_succ]
        refine till_stepT (i := 14) rfl (by kernel_rfl) (by rfl) (fun K hK => ?_)
        refine wp_run (v := ?_) (w' := ?_) ?_ ?_
        rotate_left 2
        · go_simp
          (try (first | with_reducible rfl | (apply And.intro <;> rfl)))
        refine hK.out _ _ hA hB (fun hA hB => ?_)
        clear hK K
        simp only [Act.put, List.setIfInBounds_toArray, List.set_cons_zero, List.set_cons_succ]
        refine till_step (i := 15) rfl (by kernel_rfl) (by kernel_rfl) (by rfl) (fun K hK => ?_)
        refine wp_store_cell1 45 _ _ rfl g 2 (.slice A9 (N + 1) d9) rfl rfl rfl 47 _ HBT.out (by simp) (by kernel_rfl) ?_
        have HB7 := Lib.hid (HBT.out.set 2 (.slice A9 (N + 1) d9))
        have HF7 : Hid (Fr [g] w9 (w9.setCell ⟨g, 2, none⟩ (.slice A9 (N + 1) d9))) := Lib.hid ((Fr.refl [g] w9).setCell _ (fun _ => by simp) _)
        refine hK.out _ _ (hA.trans HF7.out (fun q hq _ => hq)) (fun hA => ?_)
        clear hK K
        generalize w9.setCell ⟨g, 2, none⟩ (.slice A9 (N + 1) d9) = w10 at *
        simp only [Act.put, List.setIfInBounds_toArray, List.set_cons_zero, List.set_cons_succ]
        refine till_done (by kernel_rfl) ?_ _
        have HAF := Lib.hid hA
        clear hA hB
        go_wp2_with fail
        go_ret
        rw [HRES.out]
        have hrv : (⟨k, r, pn, hs⟩ :: T).reverse = L ++ [⟨k, r, pn, hs⟩] := by rw [List.reverse_cons, HLT.out]
        have hnl : (⟨k, r, pn, hs⟩ :: T : List Tv).length = N + 1 := by rw [List.length_cons, HNT.out]
        have hO10 := own_keep HO9.out HF7.out (fun q hq hm => by rw [bk_mem] at hq; have h1 := HA9.out q hq; have h2 := HGL.out; simp at hm; omega)
        refine ⟨rfl, ⟨g :: bk A9, (show Rt _ _ g f c (⟨k, r, pn, hs⟩ :: T) from ?_), fun y hy => ?_⟩, (HFW.out.mono (T := [g]) (by simp)).trans HAF.out (fun x hx _ => hx)⟩
        · refine ⟨A9, d9, rfl, by rw [hnl]; exact HB7.out, ?_, fun a ha => ?_⟩
          · rw [hrv, hnl]
            refine Lst.of_own (by rw [List.flatMap_append, List.flatMap_singleton, ← HDD.out]; exact hO10) (by rw [List.length_append, HLN.out]; rfl) (fun v hv => ?_)
            rcases List.mem_append.1 hv with hv | hv
            · exact HLW.out.2.1 v hv
            · obtain rfl : v = _ := by simpa using hv
              exact ⟨rv_len HH.out, HH.out⟩
          · exact own_lt hO10 a.block (by rw [bk_mem, ha]; simp [bk])
        · rcases List.mem_cons.1 hy with rfl | hy
          · exact Or.inl HSS.out
          · exact Or.inr (Nat.le_trans HFW.out.size (HA9.out y hy))
      · refine wp_build_one 45 76 _ rfl Try.underlying45 D 56 (by rw [HD.out]; exact el_rv) rfl (by rw [HD.out]; decide) (by rw [HD.out]; decide) ?_
        refine hK.out _ _ (hA.alloc _) (hB.alloc _) (fun hA hB => ?_)
        clear hK K
        simp only [Act.put, List.setIfInBounds_toArray, List.set_cons_zero, List.set_cons_succ]
        have HBV0 : Hid (Blk (wd.alloc (Obj.cells D.toArray 76)) wd.heap.size 76 D.toArray) := Lib.hid (Blk.new _ _ _)
        generalize wd.alloc (Obj.cells D.toArray 76) = we at *
        generalize wd.heap.size = gB at *
        refine till_stepT (i := 5) rfl (by kernel_rfl) (by rfl) (fun K hK => ?_)
        refine wp_append_lstT (α := Tv) (ok := fun _ (v : Tv) => v.h.length = 32) _ _ 45 rfl 76 35 56 Try.underlying45 el_rv (by decide) (by decide) rv_one rfl A N d L rfl (HLW.out.keep hB) (by have := HNN.out; omega) ?_
        intro A1 c9 w1 hn1
        have HO1 := Lib.hid hn1.1
        have HFN := Lib.hid hn1.2.1
        have HNA : Hid (∀ x ∈ bk A1, wr.heap.size ≤ x) := Lib.hid (fun x hx => by have := hn1.2.2 x hx; have := hB.size; omega)
        clear hn1
        refine hK.out _ _ (hA.trans HFN.out (fun x hx _ => by simp at hx)) (hB.trans HFN.out (fun x hx _ => by simp at hx)) (fun hA hB => ?_)
        clear hK K
        simp only [Act.put, List.setIfInBounds_toArray, List.set_cons_zero, List.set_cons_succ]
        have HBV := Lib.hid (HBV0.out.keep HFN.out (by simp))
        have HO2 := HO1
        refine till_stepT (i := 12) rfl (by kernel_rfl) (by rfl) (fun K hK => ?_)
        refine wp_append_oneT _ _ 45 76 rfl Try.underlying45 35 56 el_rv (by decide) 0 (.slice A1 N c9) N _ D rfl HO2.out (Nat.zero_le _) HD.out HD1.out gB 76 rfl HBV.out HNN.out (by decide) ?_
        intro A9 d9 w9 ho9 hf9 hb9
        rw [bk_own] at hf9
        have HA9 : Hid (∀ q ∈ bk A9, wr.heap.size ≤ q) := Lib.hid (by
          intro q hq
          rw [← bk_own A9 (N + 1) d9] at hq
          rcases hb9 with h | h
          · rw [h, bk_own] at hq; exact HNA.out q hq
          · rw [h] at hq; simp at hq; have := hA.size; omega)
        have HO9 := Lib.hid ho9
        refine hK.out _ _ (hA.trans hf9 (fun x hx hl => absurd (HNA.out x hx) (by omega))) (hB.trans hf9 (fun x hx hl => absurd (HNA.out x hx) (by omega))) (fun hA hB => ?_)
        clear hK K ho9 hf9 hb9
        simp only [Act.put, List.setIfInBounds_toArray, List.set_cons_zero, List.set_cons_succ]
        have HBT := Lib.hid (HBW.out.keep hB (by simp))
        refine till_stepT (i := 13) rfl (by kernel_rfl) (by rfl) (fun K hK => ?_)
        refine wp_run (v := ?_) (w' := ?_) ?_ ?_
        rotate_left 2
        · go_simp
          (try (first | with_reducible rfl | (apply And.intro <;> rfl)))
        refine hK.out _ _ hA hB (fun hA hB => ?_)
        clear hK K
        simp only [Act.put, List.setIfInBounds_toArray, List.set_cons_zero, List.set_cons_succ]
        refine till_stepT (i := 14) rfl (by kernel_rfl) (by rfl) (fun K hK => ?_)
        refine wp_run (v := ?_) (w' := ?_) ?_ ?_
        rotate_left 2
        · go_simp
          (try (first | with_reducible rfl | (apply And.intro <;> rfl)))
        refine hK.out _ _ hA hB (fun hA hB => ?_)
        clear hK K
        simp only [Act.put, List.setIfInBounds_toArray, List.set_cons_zero, List.set_cons_succ]
        refine till_step (i := 15) rfl (by kernel_rfl) (by kernel_rfl) (by rfl) (fun K hK => ?_)
        refine wp_store_cell1 45 _ _ rfl g 2 (.slice A9 (N + 1) d9) rfl rfl rfl 47 _ HBT.out (by simp) (by kernel_rfl) ?_
        have HB7 := Lib.hid (HBT.out.set 2 (.slice A9 (N + 1) d9))
        have HF7 : Hid (Fr [g] w9 (w9.setCell ⟨g, 2, none⟩ (.slice A9 (N + 1) d9))) := Lib.hid ((Fr.refl [g] w9).setCell _ (fun _ => by simp) _)
        refine hK.out _ _ (hA.trans HF7.out (fun q hq _ => hq)) (fun hA => ?_)
        clear hK K
        generalize w9.setCell ⟨g, 2, none⟩ (.slice A9 (N + 1) d9) = w10 at *
        simp only [Act.put, List.setIfInBounds_toArray, List.set_cons_zero, List.set_cons_succ]
        refine till_done (by kernel_rfl) ?_ _
        have HAF := Lib.hid hA
        clear hA hB
        go_wp2_with fail
        go_ret
        rw [HRES.out]
        have hrv : (⟨k, r, pn, hs⟩ :: T).reverse = L ++ [⟨k, r, pn, hs⟩] := by rw [List.reverse_cons, HLT.out]
        have hnl : (⟨k, r, pn, hs⟩ :: T : List Tv).length = N + 1 := by rw [List.length_cons, HNT.out]
        have hO10 := own_keep HO9.out HF7.out (fun q hq hm => by rw [bk_mem] at hq; have h1 := HA9.out q hq; have h2 := HGL.out; simp at hm; omega)
        refine ⟨rfl, ⟨g :: bk A9, (show Rt _ _ g f c (⟨k, r, pn, hs⟩ :: T) from ?_), fun y hy => ?_⟩, (HFW.out.mono (T := [g]) (by simp)).trans HAF.out (fun x hx _ => hx)⟩
        · refine ⟨A9, d9, rfl, by rw [hnl]; exact HB7.out, ?_, fun a ha => ?_⟩
          · rw [hrv, hnl]
            refine Lst.of_own (by rw [List.flatMap_append, List.flatMap_singleton, ← HDD.out]; exact hO10) (by rw [List.length_append, HLN.out]; rfl) (fun v hv => ?_)
            rcases List.mem_append.1 hv with hv | hv
            · exact HLW.out.2.1 v hv
            · obtain rfl : v = _ := by simpa using hv
              exact ⟨rv_len HH.out, HH.out⟩
          · exact own_lt hO10 a.block (by rw [bk_mem, ha]; simp [bk])
        · rcases List.mem_cons.1 hy with rfl | hy
          · exact Or.inl HSS.out
          · exact Or.inr (Nat.le_trans HFW.out.size (HA9.out y hy))
end Go.Proofs.Ytfmkegblhpnfcaa

namespace Go.Proofs.Ytfmkegblhpnfcaa
set_option maxRecDepth 100000
open Go.RowKit
theorem radd_any (w : World) (S : List Nat) (g : Nat) (f c : Int) (T : List Tv) (h : Rt w S g f c T) (hf : 0 ≤ f ∧ f ≤ 1000) (hT : T.length < 1000000) (k r p : Int) (hs : List UInt8) (hh : hs.length = 32) :
    Calls Try.prog 28 #[.pointer (some ⟨g, 0, none⟩), .int .i64 k, .int .i64 r, .int .i64 p, .agg (hs.map by8).toArray] w fun e w' => e = .returned (.bool (mayV (3 * f + 1) T k r p)) ∧ (∃ S', Rt w' S' g f c (addV (3 * f + 1) T k r p hs) ∧ ∀ y ∈ S', y ∈ S ∨ w.heap.size ≤ y) ∧ Fr [g] w w' := by
  cases hA : argV (3 * f + 1) k r p with
  | true =>
    have hp : 0 ≤ p := by unfold argV at hA; have := of_decide_eq_true hA; omega
    obtain ⟨pn, rfl⟩ : ∃ pn : Nat, p = pn := ⟨p.toNat, by omega⟩
    have hm : mayV (3 * f + 1) T k r pn = !hasV T k r pn := by
      unfold mayV
      unfold argV at hA
      rw [hA]
      simp
    have ha : addV (3 * f + 1) T k r pn hs = addB (hasV T k r pn) ⟨k, r, pn, hs⟩ T := by
      unfold addV addB
      rw [hm]
      cases hasV T k r pn <;> simp
    rw [hm, ha]
    exact radd_go w S g f c T h hf hT k r pn hs hh hA
  | false =>
    refine (radd_arg w S g f c T h hf k r p hs hA).mono ?_
    rintro e w' ⟨rfl, hfr⟩
    have hm : mayV (3 * f + 1) T k r p = false := by
      unfold mayV
      unfold argV at hA
      rw [hA]
      rfl
    unfold addV
    rw [hm]
    exact ⟨rfl, ⟨S, h.keep hfr (by simp), fun y hy => Or.inl hy⟩, hfr.mono (by simp)⟩
theorem built_rt (f c : Int) (A : Option Addr) (n d : Nat) : Try.prog.built 47 [(0, .agg #[.int .i64 f, .int .i64 c]), (1, .slice A n d)] = some #[.int .i64 f, .int .i64 c, .slice A n d] := by kernel_rfl
set_option maxHeartbeats 1000000 in
theorem rcopy_any (w : World) (S : List Nat) (g : Nat) (f c : Int) (T : List Tv) (h : Rt w S g f c T) (hT : T.length < 1000000) :
    Calls Try.prog 20 #[.pointer (some ⟨g, 0, none⟩)] w fun e w' => ∃ S' g', e = .returned (.pointer (some ⟨g', 0, none⟩)) ∧ Rt w' S' g' f c T ∧ Fr [] w w' ∧ ∀ y ∈ S', w.heap.size ≤ y := by
  obtain ⟨A, d, hS, h1, h2, h3⟩ := h
  have HCF : Hid (w.rangeAt g 0 [.int .i64 f, .int .i64 c]) := Lib.hid (fun j x hx => by
    have := h1.cell j
    rcases j with _ | _ | j
    · simp at hx; subst hx; simpa using this
    · simp at hx; subst hx; simpa using this
    · simp at hx)
  have c2 : w.cell? ⟨g, 2, none⟩ = some (.slice A T.length d) := (h1.cell 2).trans rfl
  have HL := Lib.hid h2
  have HTL := Lib.hid hT
  obtain ⟨N, hN⟩ : ∃ N, N = T.length := ⟨_, rfl⟩
  obtain ⟨L, hLd⟩ : ∃ L, L = T.reverse := ⟨_, rfl⟩
  have HLN : Hid (L.length = N) := Lib.hid (by rw [hLd, hN, List.length_reverse])
  have HLT := Lib.hid hLd
  have HNT := Lib.hid hN
  rw [← hN] at c2 HL HTL
  rw [← hLd] at HL
  clear h1 h2 h3 hN hLd hT hS
  go_enter Try.func20, Try.ntmps20
  go_upto_region 1 with (fail)
  refine wp_region_held_drew (S := Fr [] w) (by kernel_rfl) (Fr.drew (Fr.refl _ w)) (fun hHeld => ?_)
  refine run_at (i := 0) (v := ?_) rfl (by kernel_rfl) (by rfl) (fun _ _ _ h => h) hHeld (fun w1 hw1 => ?_) ?_
  rotate_left 1
  · skip
    go_simp
    (try (first | with_reducible rfl | (apply And.intro <;> rfl)))
  simp only [Act.put, List.setIfInBounds_toArray, List.set_cons_zero, List.set_cons_succ]
  refine run_at (i := 1) (v := ?_) rfl (by kernel_rfl) (by rfl) (fun _ _ _ h => h) hHeld (fun w1 hw1 => ?_) ?_
  rotate_left 1
  · skip
    go_simp
    (try (first | with_reducible rfl | (apply And.intro <;> rfl)))
  simp only [Act.put, List.setIfInBounds_toArray, List.set_cons_zero, List.set_cons_succ]
  refine run_at (i := 2) (v := ?_) rfl (by kernel_rfl) (by rfl) (fun _ _ _ h => h) hHeld (fun w1 hw1 => ?_) ?_
  rotate_left 1
  · skip
    go_simp
    (try (first | with_reducible rfl | (apply And.intro <;> rfl)))
  simp only [Act.put, List.setIfInBounds_toArray, List.set_cons_zero, List.set_cons_succ]
  refine row_at (i := 3) rfl (by kernel_rfl) (by rfl) _ _ rfl _ _ rfl _ (fun w1 hw1 => hw1.range (HCF.out) (by first | (simp; done) | exact HNS.out | exact HNW.out | (intro hm; have hlt := HSB.out _ hm; (try dsimp only at hlt); omega))) (row_conf2) (fun _ _ _ h => h) hHeld ?_
  simp only [Act.put, List.setIfInBounds_toArray, List.set_cons_zero, List.set_cons_succ]
  refine run_at (i := 4) (v := ?_) rfl (by kernel_rfl) (by rfl) (fun _ _ _ h => h) hHeld (fun w1 hw1 => ?_) ?_
  rotate_left 1
  · skip
    go_simp
    (try (first | with_reducible rfl | (apply And.intro <;> rfl)))
  simp only [Act.put, List.setIfInBounds_toArray, List.set_cons_zero, List.set_cons_succ]
  refine run_at (i := 5) (v := ?_) rfl (by kernel_rfl) (by rfl) (fun _ _ _ h => h) hHeld (fun w1 hw1 => ?_) ?_
  rotate_left 1
  · skip
    go_simp
    (try (first | with_reducible rfl | (apply And.intro <;> rfl)))
  simp only [Act.put, List.setIfInBounds_toArray, List.set_cons_zero, List.set_cons_succ]
  refine run_at (i := 6) (v := ?_) rfl (by kernel_rfl) (by rfl) (fun _ _ _ h => h) hHeld (fun w1 hw1 => ?_) ?_
  rotate_left 1
  · skip
    go_simp
    (try (first | with_reducible rfl | (apply And.intro <;> rfl)))
  simp only [Act.put, List.setIfInBounds_toArray, List.set_cons_zero, List.set_cons_succ]
  refine run_at (i := 7) (v := ?_) rfl (by kernel_rfl) (by rfl) (fun _ _ _ h => h) hHeld (fun w1 hw1 => ?_) ?_
  rotate_left 1
  · skip
    have hcw0 := hw1.cell (c2) (by first | (simp; done) | exact HNS.out | exact HNW.out | (intro hm; have hlt := HSB.out _ hm; (try dsimp only at hlt); omega))
    go_simp
    (try (first | with_reducible rfl | (apply And.intro <;> rfl)))
  simp only [Act.put, List.setIfInBounds_toArray, List.set_cons_zero, List.set_cons_succ]
  refine step_at (i := 8) rfl (by kernel_rfl) (by rfl) (fun K hK => ?_)
  refine wp_append_lstT (α := Tv) (ok := fun _ (v : Tv) => v.h.length = 32) _ _ 45 rfl 76 35 56 Try.underlying45 el_rv (by decide) (by decide) rv_one rfl A N d L rfl (HL.out.keep hHeld) (by have := HTL.out; omega) ?_
  intro A1 c9 w1 hn1
  have HO1 := Lib.hid hn1.1
  have HFN := Lib.hid hn1.2.1
  have HNA : Hid (∀ x ∈ bk A1, w.heap.size ≤ x) := Lib.hid (fun x hx => by have := hn1.2.2 x hx; have := hHeld.size; omega)
  have HSZ : Hid (w.heap.size ≤ w1.heap.size) := Lib.hid (by have := hHeld.size; have := HFN.out.size; omega)
  clear hn1
  refine hK.out _ _ (hHeld.and HFN.out (by simp)) (fun hHeld => ?_)
  clear hK K
  simp only [Act.put, List.setIfInBounds_toArray, List.set_cons_zero, List.set_cons_succ]
  refine build_at (i := 9) rfl (by kernel_rfl) (by rfl) _ _ rfl _ _ (built_rt f c A1 N c9) rfl (fun _ _ _ h => h) hHeld ?_
  simp only [Act.put, List.setIfInBounds_toArray, List.set_cons_zero, List.set_cons_succ]
  refine step_at (i := 10) rfl (by kernel_rfl) (by rfl) (fun K hK => ?_)
  refine wp_run (v := ?_) (w' := ?_) ?_ ?_
  rotate_left 2
  · go_simp
    (try (first | with_reducible rfl | (apply And.intro <;> rfl)))
  have HB : Hid (Blk (w1.alloc (Obj.cells #[.int .i64 f, .int .i64 c, .slice A1 N c9] 47)) w1.heap.size 47 #[.int .i64 f, .int .i64 c, .slice A1 N c9]) := Lib.hid (Blk.new _ _ _)
  have HO2 := Lib.hid (HO1.out.alloc (Obj.cells #[.int .i64 f, .int .i64 c, .slice A1 N c9] 47))
  refine hK.out _ _ (hHeld.alloc _) (fun hHeld => ?_)
  clear hK K
  simp only [Act.put, List.setIfInBounds_toArray, List.set_cons_zero, List.set_cons_succ]
  refine run_at (i := 11) (v := ?_) rfl (by kernel_rfl) (by rfl) (fun _ _ _ h => h) hHeld (fun w1 hw1 => ?_) ?_
  rotate_left 1
  · skip
    go_simp
    (try (first | with_reducible rfl | (apply And.intro <;> rfl)))
  simp only [Act.put, List.setIfInBounds_toArray, List.set_cons_zero, List.set_cons_succ]
  refine wpAnyH_done (by kernel_rfl) ?_ _
  have HFF := Lib.hid hHeld
  clear hHeld
  go_wp2
  go_ret
  refine ⟨w1.heap.size :: bk A1, w1.heap.size, rfl, ⟨A1, c9, rfl, by rw [← HNT.out]; exact HB.out, ?_, fun a ha => ?_⟩, HFF.out, fun y hy => ?_⟩
  · rw [← HNT.out, ← HLT.out]
    exact Lst.of_own HO2.out HLN.out (fun v hv => HL.out.2.1 v hv)
  · exact own_lt HO2.out a.block (by rw [bk_mem, ha]; simp [bk])
  · rcases List.mem_cons.1 hy with rfl | hy
    · exact HSZ.out
    · exact HNA.out y hy
end Go.Proofs.Ytfmkegblhpnfcaa

namespace Go.Proofs.Ytfmkegblhpnfcaa
set_option maxRecDepth 100000
open Go.RowKit
def stepH (x : Int) (l : List Nat) (v : Tv) : List Nat := if x ≤ v.r ∧ ¬ v.p ∈ l then l ++ [v.p] else l
def hrdL (x : Int) (L : List Tv) : List Nat := L.foldl (stepH x) []
theorem hrd_take {l : List Tv} {q : Nat} {v : Tv} (h : l[q]? = some v) (x : Int) : hrdL x (l.take (q + 1)) = stepH x (hrdL x (l.take q)) v := by
  unfold hrdL
  rw [List.take_add_one, h, List.foldl_append]
  rfl
theorem stepH_len (x : Int) (l : List Nat) (v : Tv) : (stepH x l v).length ≤ l.length + 1 := by
  unfold stepH
  split <;> simp
theorem hrdL_len (x : Int) (L : List Tv) (l : List Nat) : (L.foldl (stepH x) l).length ≤ l.length + L.length := by
  induction L generalizing l with
  | nil => simp
  | cons v L ih =>
    have h1 := ih (stepH x l v)
    have h2 := stepH_len x l v
    simp only [List.foldl_cons, List.length_cons]
    omega
theorem el_i64r : ElTy Try.prog 3 1 8 := ElTy.of (by kernel_rfl)
theorem wpList_build_int {P : Program} {ops : Array Oper} {rest : List Oper} {o : Oper} {a : Act} {w : World} {Q : Exit → Act → World → Prop} (hg : o.guard = none) (t e : TypeId) (y : Operand) (ho : o.op = .buildSlice t 1 #[(0, y)]) (hu : P.underlying t = some (.slice e))
    (x : Int) (k : IntKind) (bytes : Nat) (he : ElTy P e 1 bytes) (hy : a.eval y = .int k x)
    (h : wpList P ops Q rest (a.put o.dst (.slice (some ⟨w.heap.size, 0, none⟩) 1 1)) (w.alloc (.cells #[.int k x] e))) : wpList P ops Q (o :: rest) a w := by
  refine wpList_plain hg fun _ hK => ?_
  obtain ⟨i, z, hi, hz, hzs, hs, _⟩ := he
  refine wp_buildSlice t e 1 _ ho #[.int k x] i z hu hi hz (by rw [hs]; omega) (by rw [hs]; omega) ?_ (hK _ _ h)
  have hl : ((Array.range (1 * i.size)).map (z.cells[· % z.cells.size]!)).size = 1 := by simp [hs]
  generalize (Array.range (1 * i.size)).map (z.cells[· % z.cells.size]!) = Z at *
  have e1 : (#[(0, y)].map fun (i, x) => (i, a.eval x)).toList = [(0, .int k x)] := by simp [hy]
  rw [e1, fill_step _ _ 0 0 1 _ _ (by simp [hs]) (by simp [Value.cells]) (by omega), Instr.fill]
  congr 1
  have hd : Z.toList.drop 1 = [] := List.drop_eq_nil_of_le (by simp [hl])
  simp [splice, Value.cells, hd]
def icells (l : List Nat) : List Value := l.map fun p => .int .i64 (p : Nat)
theorem icell {w : World} {b : Nat} {A : Option Addr} {l : List Nat} {c : Nat} (h : w.ownsRow b 3 1 (.slice A l.length c) l.length (icells l)) {j : Nat} (hj : j < l.length) :
    ∃ gq u, A = some ⟨gq, 0, none⟩ ∧ l[j]? = some u ∧ w.cell? ⟨gq, j, none⟩ = some (.int .i64 (u : Nat)) := by
  obtain ⟨gq, cap, hv, _, _⟩ := h.form (by omega)
  injection hv with hA
  subst hA
  have hc := h.cells (g := gq) rfl
  have hadd : (⟨gq, 0, none⟩ : Addr).add j = ⟨gq, j, none⟩ := by unfold Addr.add; split <;> simp_all
  refine ⟨gq, l[j], rfl, by simp [hj], ?_⟩
  rw [← hadd]
  exact hc j _ (by simp [icells, hj])
theorem take_anyN {l : List Nat} {q u : Nat} (h : l[q]? = some u) (p : Nat → Bool) : (l.take (q + 1)).any p = ((l.take q).any p || p u) := by
  rw [List.take_add_one, h, List.any_append]
  simp
set_option maxHeartbeats 4000000 in
theorem rheard_any (w : World) (S : List Nat) (g : Nat) (f c : Int) (T : List Tv) (h : Rt w S g f c T) (hT : T.length < 1000000) (x : Int) :
    Calls Try.prog 31 #[.pointer (some ⟨g, 0, none⟩), .int .i64 x] w fun e w' => e = .returned (.int .i64 ((hrdL x T.reverse).length : Nat)) ∧ Fr [] w w' := by
  obtain ⟨A, d, -, h1, h2, -⟩ := h
  have HC1 : Hid (w.cell? ⟨g, 2, none⟩ = some (.slice A T.length d)) := Lib.hid ((h1.cell 2).trans rfl)
  have HL := Lib.hid h2
  have HTL := Lib.hid hT
  obtain ⟨N, hN⟩ : ∃ N, N = T.length := ⟨_, rfl⟩
  obtain ⟨L, hLd⟩ : ∃ L, L = T.reverse := ⟨_, rfl⟩
  have HLN : Hid (L.length = N) := Lib.hid (by rw [hLd, hN, List.length_reverse])
  rw [← hN] at HC1 HL HTL
  rw [← hLd] at HL ⊢
  have HRE : Hid (hrdL x (L.take N) = hrdL x L) := Lib.hid (by rw [List.take_of_length_le (Nat.le_of_eq HLN.out)])
  generalize hrdL x L = res at *
  clear h1 h2 hN hLd hT
  go_enter Try.func31, Try.ntmps31
  have c1 := HC1.out
  go_wp2_with fail
  go_loopw [5, 14] (fun l i wr => ∃ (q : Nat) (B : Option Addr) (cB : Nat) (lst : List Nat), q ≤ N ∧ i = .int .i64 q ∧ l = .slice B lst.length cB ∧ lst.length ≤ q ∧ Hid (lst = hrdL x (L.take q)) ∧ Hid (wr.ownsRow w.heap.size 3 1 (.slice B lst.length cB) lst.length (icells lst)) ∧ Hid (Fr [] w wr)) (fun _ i _ => N - (intOf i).toNat)
  case atStart => exact ⟨0, none, 0, [], by omega, rfl, rfl, by simp, Lib.hid (by simp [hrdL]), Lib.hid ⟨by simp [icells], .inl ⟨rfl, rfl⟩⟩, Lib.hid (Fr.refl _ _)⟩
  case round =>
    obtain ⟨q, B, cB, lst, hq, rfl, rfl, hlq, HLS, HOW, HF⟩ := hrel
    rename World => wr
    clear c1
    have c1 := HF.out.cell HC1.out (by simp)
    obtain ⟨n, hn⟩ : ∃ n, n = lst.length := ⟨_, rfl⟩
    have HNL := Lib.hid hn
    have HLQ := Lib.hid hlq
    rw [← hn] at HOW ⊢
    clear hn hlq
    by_cases hlt : q < N
    · have hq64 : (q : Int) < 1000000 := by have := HTL.out; omega
      have hN64 : (N : Int) ≤ 9223372036854775807 := by have := HTL.out; omega
      have hq0 : (0 : Int) ≤ q := by omega
      obtain ⟨ad, v, hA, hv, hvl, ck, cr, cp, _⟩ := (HL.out.keep HF.out).cell hlt
      subst hA
      have HCR := Lib.hid cr
      have HCP := Lib.hid cp
      have HTK := Lib.hid (hrd_take hv x)
      clear hv hvl ck cr cp
      go_wp2_with fail
      go_loopw [7, 19] (fun b i ws => ∃ (j : Nat), j ≤ n ∧ i = .int .i64 j ∧ b = .bool ((lst.take j).any fun p => decide (p = v.p)) ∧ Hid (Fr [] wr ws)) (fun _ i _ => n - (intOf i).toNat)
      case atStart => exact ⟨0, by omega, rfl, rfl, Lib.hid (Fr.refl _ _)⟩
      case round =>
        obtain ⟨j, hj, rfl, rfl, HFS⟩ := hrel
        rename World => ws
        clear c1
        have c1 := HFS.out.cell (HF.out.cell HC1.out (by simp)) (by simp)
        have hn64 : (n : Int) < 1000000 := by have := HNL.out; have := HLQ.out; omega
        have hj0 : (0 : Int) ≤ j := by omega
        by_cases hjn : j < n
        · obtain ⟨gq, u, hB, hu, cu⟩ := icell (l := lst) (by have := HOW.out; rwa [← HNL.out]) (show j < lst.length by rw [← HNL.out]; exact hjn)
          subst hB
          have cu := HFS.out.cell cu (by simp)
          have cp := HFS.out.cell HCP.out (by simp)
          have HTJ := Lib.hid (take_anyN hu fun p => decide (p = v.p))
          clear hu
          generalize hbb : (lst.take j).any (fun p => decide (p = v.p)) = bb at *
          go_upto_region 9 with (fail)
          cases bb with
          | true =>
            refine wp_region_held_drew (S := Fr [] ws) (by kernel_rfl) (Fr.drew (Fr.refl _ ws)) (fun hHeld => ?_)
            refine run_at (i := 0) (v := ?_) rfl (by kernel_rfl) (by rfl) (fun _ _ _ h => h) hHeld (fun w1 hw1 => ?_) ?_
            rotate_left 1
            · skip
              go_simp
              (try (first | with_reducible rfl | (apply And.intro <;> rfl)))
            simp only [Act.put, List.setIfInBounds_toArray, List.set_cons_zero, List.set_cons_succ]
            refine run_at (i := 1) (v := ?_) rfl (by kernel_rfl) (by rfl) (fun _ _ _ h => h) hHeld (fun w1 hw1 => ?_) ?_
            rotate_left 1
            · skip
              go_simp
              (try (first | with_reducible rfl | (apply And.intro <;> rfl)))
            simp only [Act.put, List.setIfInBounds_toArray, List.set_cons_zero, List.set_cons_succ]
            refine skip_at (i := 2) rfl (by kernel_rfl) (fun _ _ _ h => h) (by kernel_rfl) hHeld ?_
            simp only [Act.put, List.setIfInBounds_toArray, List.set_cons_zero, List.set_cons_succ]
            refine skip_at (i := 3) rfl (by kernel_rfl) (fun _ _ _ h => h) (by kernel_rfl) hHeld ?_
            simp only [Act.put, List.setIfInBounds_toArray, List.set_cons_zero, List.set_cons_succ]
            refine skip_at (i := 4) rfl (by kernel_rfl) (fun _ _ _ h => h) (by kernel_rfl) hHeld ?_
            simp only [Act.put, List.setIfInBounds_toArray, List.set_cons_zero, List.set_cons_succ]
            refine skip_at (i := 5) rfl (by kernel_rfl) (fun _ _ _ h => h) (by kernel_rfl) hHeld ?_
            simp only [Act.put, List.setIfInBounds_toArray, List.set_cons_zero, List.set_cons_succ]
            refine skip_at (i := 6) rfl (by kernel_rfl) (fun _ _ _ h => h) (by kernel_rfl) hHeld ?_
            simp only [Act.put, List.setIfInBounds_toArray, List.set_cons_zero, List.set_cons_succ]
            refine skip_at (i := 7) rfl (by kernel_rfl) (fun _ _ _ h => h) (by kernel_rfl) hHeld ?_
            simp only [Act.put, List.setIfInBounds_toArray, List.set_cons_zero, List.set_cons_succ]
            refine skip_at (i := 8) rfl (by kernel_rfl) (fun _ _ _ h => h) (by kernel_rfl) hHeld ?_
            simp only [Act.put, List.setIfInBounds_toArray, List.set_cons_zero, List.set_cons_succ]
            refine skip_at (i := 9) rfl (by kernel_rfl) (fun _ _ _ h => h) (by kernel_rfl) hHeld ?_
            simp only [Act.put, List.setIfInBounds_toArray, List.set_cons_zero, List.set_cons_succ]
            refine skip_at (i := 10) rfl (by kernel_rfl) (fun _ _ _ h => h) (by kernel_rfl) hHeld ?_
            simp only [Act.put, List.setIfInBounds_toArray, List.set_cons_zero, List.set_cons_succ]
            refine skip_at (i := 11) rfl (by kernel_rfl) (fun _ _ _ h => h) (by kernel_rfl) hHeld ?_
            simp only [Act.put, List.setIfInBounds_toArray, List.set_cons_zero, List.set_cons_succ]
            refine skip_at (i := 12) rfl (by kernel_rfl) (fun _ _ _ h => h) (by kernel_rfl) hHeld ?_
            simp only [Act.put, List.setIfInBounds_toArray, List.set_cons_zero, List.set_cons_succ]
            refine skip_at (i := 13) rfl (by kernel_rfl) (fun _ _ _ h => h) (by kernel_rfl) hHeld ?_
            simp only [Act.put, List.setIfInBounds_toArray, List.set_cons_zero, List.set_cons_succ]
            refine skip_at (i := 14) rfl (by kernel_rfl) (fun _ _ _ h => h) (by kernel_rfl) hHeld ?_
            simp only [Act.put, List.setIfInBounds_toArray, List.set_cons_zero, List.set_cons_succ]
            refine run_at (i := 15) (v := ?_) rfl (by kernel_rfl) (by rfl) (fun _ _ _ h => h) hHeld (fun w1 hw1 => ?_) ?_
            rotate_left 1
            · skip
              go_simp
              (try (first | with_reducible rfl | (apply And.intro <;> rfl)))
            simp only [Act.put, List.setIfInBounds_toArray, List.set_cons_zero, List.set_cons_succ]
            refine run_at (i := 16) (v := ?_) rfl (by kernel_rfl) (by rfl) (fun _ _ _ h => h) hHeld (fun w1 hw1 => ?_) ?_
            rotate_left 1
            · skip
              go_simp
              (try (first | with_reducible rfl | (apply And.intro <;> rfl)))
            simp only [Act.put, List.setIfInBounds_toArray, List.set_cons_zero, List.set_cons_succ]
            refine wpAnyH_done (by kernel_rfl) ?_ _
            have HFN := Lib.hid (HFS.out.and hHeld (by simp))
            clear hHeld
            go_wp2_with fail
            go_roundw
            case rel => exact ⟨j + 1, by omega, by go_num, by rw [HTJ.out]; rfl, HFN⟩
            case measure => simp [intOf]; omega
          | false =>
            by_cases hup : u = v.p
            · have b1 : ((u : Int) == (v.p : Int)) = true := by simp [hup]
              have HT3 : Hid ((lst.take (j + 1)).any (fun p => decide (p = v.p)) = true) := Lib.hid (by rw [HTJ.out]; simp [hup])
              clear hup
              refine wp_region_held_drew (S := Fr [] ws) (by kernel_rfl) (Fr.drew (Fr.refl _ ws)) (fun hHeld => ?_)
              refine run_at (i := 0) (v := ?_) rfl (by kernel_rfl) (by rfl) (fun _ _ _ h => h) hHeld (fun w1 hw1 => ?_) ?_
              rotate_left 1
              · skip
                go_simp
                (try (first | with_reducible rfl | (apply And.intro <;> rfl)))
              simp only [Act.put, List.setIfInBounds_toArray, List.set_cons_zero, List.set_cons_succ]
              refine run_at (i := 1) (v := ?_) rfl (by kernel_rfl) (by rfl) (fun _ _ _ h => h) hHeld (fun w1 hw1 => ?_) ?_
              rotate_left 1
              · skip
                go_simp
                (try (first | with_reducible rfl | (apply And.intro <;> rfl)))
              simp only [Act.put, List.setIfInBounds_toArray, List.set_cons_zero, List.set_cons_succ]
              refine run_at (i := 2) (v := ?_) rfl (by kernel_rfl) (by rfl) (fun _ _ _ h => h) hHeld (fun w1 hw1 => ?_) ?_
              rotate_left 1
              · skip
                go_simp
                (try (first | with_reducible rfl | (apply And.intro <;> rfl)))
              simp only [Act.put, List.setIfInBounds_toArray, List.set_cons_zero, List.set_cons_succ]
              refine run_at (i := 3) (v := ?_) rfl (by kernel_rfl) (by rfl) (fun _ _ _ h => h) hHeld (fun w1 hw1 => ?_) ?_
              rotate_left 1
              · skip
                go_simp
                (try (first | with_reducible rfl | (apply And.intro <;> rfl)))
              simp only [Act.put, List.setIfInBounds_toArray, List.set_cons_zero, List.set_cons_succ]
              refine run_at (i := 4) (v := ?_) rfl (by kernel_rfl) (by rfl) (fun _ _ _ h => h) hHeld (fun w1 hw1 => ?_) ?_
              rotate_left 1
              · skip
                go_simp
                (try (first | with_reducible rfl | (apply And.intro <;> rfl)))
              simp only [Act.put, List.setIfInBounds_toArray, List.set_cons_zero, List.set_cons_succ]
              refine run_at (i := 5) (v := ?_) rfl (by kernel_rfl) (by rfl) (fun _ _ _ h => h) hHeld (fun w1 hw1 => ?_) ?_
              rotate_left 1
              · skip
                have hcw0 := hw1.cell (cu) (by first | (simp; done) | exact HNS.out | exact HNW.out | (intro hm; have hlt := HSB.out _ hm; (try dsimp only at hlt); omega))
                go_simp
                (try (first | with_reducible rfl | (apply And.intro <;> rfl)))
              simp only [Act.put, List.setIfInBounds_toArray, List.set_cons_zero, List.set_cons_succ]
              refine run_at (i := 6) (v := ?_) rfl (by kernel_rfl) (by rfl) (fun _ _ _ h => h) hHeld (fun w1 hw1 => ?_) ?_
              rotate_left 1
              · skip
                go_simp
                (try (first | with_reducible rfl | (apply And.intro <;> rfl)))
              simp only [Act.put, List.setIfInBounds_toArray, List.set_cons_zero, List.set_cons_succ]
              refine run_at (i := 7) (v := ?_) rfl (by kernel_rfl) (by rfl) (fun _ _ _ h => h) hHeld (fun w1 hw1 => ?_) ?_
              rotate_left 1
              · skip
                go_simp
                (try (first | with_reducible rfl | (apply And.intro <;> rfl)))
              simp only [Act.put, List.setIfInBounds_toArray, List.set_cons_zero, List.set_cons_succ]
              refine run_at (i := 8) (v := ?_) rfl (by kernel_rfl) (by rfl) (fun _ _ _ h => h) hHeld (fun w1 hw1 => ?_) ?_
              rotate_left 1
              · skip
                go_simp
                (try (first | with_reducible rfl | (apply And.intro <;> rfl)))
              simp only [Act.put, List.setIfInBounds_toArray, List.set_cons_zero, List.set_cons_succ]
              refine run_at (i := 9) (v := ?_) rfl (by kernel_rfl) (by rfl) (fun _ _ _ h => h) hHeld (fun w1 hw1 => ?_) ?_
              rotate_left 1
              · skip
                have hcw0 := hw1.cell (c1) (by first | (simp; done) | exact HNS.out | exact HNW.out | (intro hm; have hlt := HSB.out _ hm; (try dsimp only at hlt); omega))
                go_simp
                (try (first | with_reducible rfl | (apply And.intro <;> rfl)))
              simp only [Act.put, List.setIfInBounds_toArray, List.set_cons_zero, List.set_cons_succ]
              refine run_at (i := 10) (v := ?_) rfl (by kernel_rfl) (by rfl) (fun _ _ _ h => h) hHeld (fun w1 hw1 => ?_) ?_
              rotate_left 1
              · skip
                go_simp
                (try (first | with_reducible rfl | (apply And.intro <;> rfl)))
              simp only [Act.put, List.setIfInBounds_toArray, List.set_cons_zero, List.set_cons_succ]
              refine run_at (i := 11) (v := ?_) rfl (by kernel_rfl) (by rfl) (fun _ _ _ h => h) hHeld (fun w1 hw1 => ?_) ?_
              rotate_left 1
              · skip
                go_simp
                (try (first | with_reducible rfl | (apply And.intro <;> rfl)))
              simp only [Act.put, List.setIfInBounds_toArray, List.set_cons_zero, List.set_cons_succ]
              refine run_at (i := 12) (v := ?_) rfl (by kernel_rfl) (by rfl) (fun _ _ _ h => h) hHeld (fun w1 hw1 => ?_) ?_
              rotate_left 1
              · skip
                go_simp
                (try (first | with_reducible rfl | (apply And.intro <;> rfl)))
              simp only [Act.put, List.setIfInBounds_toArray, List.set_cons_zero, List.set_cons_succ]
              refine run_at (i := 13) (v := ?_) rfl (by kernel_rfl) (by rfl) (fun _ _ _ h => h) hHeld (fun w1 hw1 => ?_) ?_
              rotate_left 1
              · skip
                have hcw0 := hw1.cell (cp) (by first | (simp; done) | exact HNS.out | exact HNW.out | (intro hm; have hlt := HSB.out _ hm; (try dsimp only at hlt); omega))
                go_simp
                (try (first | with_reducible rfl | (apply And.intro <;> rfl)))
              simp only [Act.put, List.setIfInBounds_toArray, List.set_cons_zero, List.set_cons_succ]
              refine run_at (i := 14) (v := ?_) rfl (by kernel_rfl) (by rfl) (fun _ _ _ h => h) hHeld (fun w1 hw1 => ?_) ?_
              rotate_left 1
              · skip
                go_simp
                (try (first | with_reducible rfl | (apply And.intro <;> rfl)))
              simp only [Act.put, List.setIfInBounds_toArray, List.set_cons_zero, List.set_cons_succ]
              refine run_at (i := 15) (v := ?_) rfl (by kernel_rfl) (by rfl) (fun _ _ _ h => h) hHeld (fun w1 hw1 => ?_) ?_
              rotate_left 1
              · skip
                go_simp
                (try (first | with_reducible rfl | (apply And.intro <;> rfl)))
              simp only [Act.put, List.setIfInBounds_toArray, List.set_cons_zero, List.set_cons_succ]
              refine run_at (i := 16) (v := ?_) rfl (by kernel_rfl) (by rfl) (fun _ _ _ h => h) hHeld (fun w1 hw1 => ?_) ?_
              rotate_left 1
              · skip
                go_simp
                (try (first | with_reducible rfl | (apply And.intro <;> rfl)))
              simp only [Act.put, List.setIfInBounds_toArray, List.set_cons_zero, List.set_cons_succ]
              refine wpAnyH_done (by kernel_rfl) ?_ _
              have HFN := Lib.hid (HFS.out.and hHeld (by simp))
              clear hHeld
              go_wp2_with fail
              go_roundw
              case rel => exact ⟨j + 1, by omega, by go_num, by rw [HT3.out], HFN⟩
              case measure => simp [intOf]; omega
            · have b1 : ((u : Int) == (v.p : Int)) = false := by simp; omega
              have HT3 : Hid ((lst.take (j + 1)).any (fun p => decide (p = v.p)) = false) := Lib.hid (by rw [HTJ.out]; simp [hup])
              clear hup
              refine wp_region_held_drew (S := Fr [] ws) (by kernel_rfl) (Fr.drew (Fr.refl _ ws)) (fun hHeld => ?_)
              refine run_at (i := 0) (v := ?_) rfl (by kernel_rfl) (by rfl) (fun _ _ _ h => h) hHeld (fun w1 hw1 => ?_) ?_
              rotate_left 1
              · skip
                go_simp
                (try (first | with_reducible rfl | (apply And.intro <;> rfl)))
              simp only [Act.put, List.setIfInBounds_toArray, List.set_cons_zero, List.set_cons_succ]
              refine run_at (i := 1) (v := ?_) rfl (by kernel_rfl) (by rfl) (fun _ _ _ h => h) hHeld (fun w1 hw1 => ?_) ?_
              rotate_left 1
              · skip
                go_simp
                (try (first | with_reducible rfl | (apply And.intro <;> rfl)))
              simp only [Act.put, List.setIfInBounds_toArray, List.set_cons_zero, List.set_cons_succ]
              refine run_at (i := 2) (v := ?_) rfl (by kernel_rfl) (by rfl) (fun _ _ _ h => h) hHeld (fun w1 hw1 => ?_) ?_
              rotate_left 1
              · skip
                go_simp
                (try (first | with_reducible rfl | (apply And.intro <;> rfl)))
              simp only [Act.put, List.setIfInBounds_toArray, List.set_cons_zero, List.set_cons_succ]
              refine run_at (i := 3) (v := ?_) rfl (by kernel_rfl) (by rfl) (fun _ _ _ h => h) hHeld (fun w1 hw1 => ?_) ?_
              rotate_left 1
              · skip
                go_simp
                (try (first | with_reducible rfl | (apply And.intro <;> rfl)))
              simp only [Act.put, List.setIfInBounds_toArray, List.set_cons_zero, List.set_cons_succ]
              refine run_at (i := 4) (v := ?_) rfl (by kernel_rfl) (by rfl) (fun _ _ _ h => h) hHeld (fun w1 hw1 => ?_) ?_
              rotate_left 1
              · skip
                go_simp
                (try (first | with_reducible rfl | (apply And.intro <;> rfl)))
              simp only [Act.put, List.setIfInBounds_toArray, List.set_cons_zero, List.set_cons_succ]
              refine run_at (i := 5) (v := ?_) rfl (by kernel_rfl) (by rfl) (fun _ _ _ h => h) hHeld (fun w1 hw1 => ?_) ?_
              rotate_left 1
              · skip
                have hcw0 := hw1.cell (cu) (by first | (simp; done) | exact HNS.out | exact HNW.out | (intro hm; have hlt := HSB.out _ hm; (try dsimp only at hlt); omega))
                go_simp
                (try (first | with_reducible rfl | (apply And.intro <;> rfl)))
              simp only [Act.put, List.setIfInBounds_toArray, List.set_cons_zero, List.set_cons_succ]
              refine run_at (i := 6) (v := ?_) rfl (by kernel_rfl) (by rfl) (fun _ _ _ h => h) hHeld (fun w1 hw1 => ?_) ?_
              rotate_left 1
              · skip
                go_simp
                (try (first | with_reducible rfl | (apply And.intro <;> rfl)))
              simp only [Act.put, List.setIfInBounds_toArray, List.set_cons_zero, List.set_cons_succ]
              refine run_at (i := 7) (v := ?_) rfl (by kernel_rfl) (by rfl) (fun _ _ _ h => h) hHeld (fun w1 hw1 => ?_) ?_
              rotate_left 1
              · skip
                go_simp
                (try (first | with_reducible rfl | (apply And.intro <;> rfl)))
              simp only [Act.put, List.setIfInBounds_toArray, List.set_cons_zero, List.set_cons_succ]
              refine run_at (i := 8) (v := ?_) rfl (by kernel_rfl) (by rfl) (fun _ _ _ h => h) hHeld (fun w1 hw1 => ?_) ?_
              rotate_left 1
              · skip
                go_simp
                (try (first | with_reducible rfl | (apply And.intro <;> rfl)))
              simp only [Act.put, List.setIfInBounds_toArray, List.set_cons_zero, List.set_cons_succ]
              refine run_at (i := 9) (v := ?_) rfl (by kernel_rfl) (by rfl) (fun _ _ _ h => h) hHeld (fun w1 hw1 => ?_) ?_
              rotate_left 1
              · skip
                have hcw0 := hw1.cell (c1) (by first | (simp; done) | exact HNS.out | exact HNW.out | (intro hm; have hlt := HSB.out _ hm; (try dsimp only at hlt); omega))
                go_simp
                (try (first | with_reducible rfl | (apply And.intro <;> rfl)))
              simp only [Act.put, List.setIfInBounds_toArray, List.set_cons_zero, List.set_cons_succ]
              refine run_at (i := 10) (v := ?_) rfl (by kernel_rfl) (by rfl) (fun _ _ _ h => h) hHeld (fun w1 hw1 => ?_) ?_
              rotate_left 1
              · skip
                go_simp
                (try (first | with_reducible rfl | (apply And.intro <;> rfl)))
              simp only [Act.put, List.setIfInBounds_toArray, List.set_cons_zero, List.set_cons_succ]
              refine run_at (i := 11) (v := ?_) rfl (by kernel_rfl) (by rfl) (fun _ _ _ h => h) hHeld (fun w1 hw1 => ?_) ?_
              rotate_left 1
              · skip
                go_simp
                (try (first | with_reducible rfl | (apply And.intro <;> rfl)))
              simp only [Act.put, List.setIfInBounds_toArray, List.set_cons_zero, List.set_cons_succ]
              refine run_at (i := 12) (v := ?_) rfl (by kernel_rfl) (by rfl) (fun _ _ _ h => h) hHeld (fun w1 hw1 => ?_) ?_
              rotate_left 1
              · skip
                go_simp
                (try (first | with_reducible rfl | (apply And.intro <;> rfl)))
              simp only [Act.put, List.setIfInBounds_toArray, List.set_cons_zero, List.set_cons_succ]
              refine run_at (i := 13) (v := ?_) rfl (by kernel_rfl) (by rfl) (fun _ _ _ h => h) hHeld (fun w1 hw1 => ?_) ?_
              rotate_left 1
              · skip
                have hcw0 := hw1.cell (cp) (by first | (simp; done) | exact HNS.out | exact HNW.out | (intro hm; have hlt := HSB.out _ hm; (try dsimp only at hlt); omega))
                go_simp
                (try (first | with_reducible rfl | (apply And.intro <;> rfl)))
              simp only [Act.put, List.setIfInBounds_toArray, List.set_cons_zero, List.set_cons_succ]
              refine run_at (i := 14) (v := ?_) rfl (by kernel_rfl) (by rfl) (fun _ _ _ h => h) hHeld (fun w1 hw1 => ?_) ?_
              rotate_left 1
              · skip
                go_simp
                (try (first | with_reducible rfl | (apply And.intro <;> rfl)))
              simp only [Act.put, List.setIfInBounds_toArray, List.set_cons_zero, List.set_cons_succ]
              refine run_at (i := 15) (v := ?_) rfl (by kernel_rfl) (by rfl) (fun _ _ _ h => h) hHeld (fun w1 hw1 => ?_) ?_
              rotate_left 1
              · skip
                go_simp
                (try (first | with_reducible rfl | (apply And.intro <;> rfl)))
              simp only [Act.put, List.setIfInBounds_toArray, List.set_cons_zero, List.set_cons_succ]
              refine run_at (i := 16) (v := ?_) rfl (by kernel_rfl) (by rfl) (fun _ _ _ h => h) hHeld (fun w1 hw1 => ?_) ?_
              rotate_left 1
              · skip
                go_simp
                (try (first | with_reducible rfl | (apply And.intro <;> rfl)))
              simp only [Act.put, List.setIfInBounds_toArray, List.set_cons_zero, List.set_cons_succ]
              refine wpAnyH_done (by kernel_rfl) ?_ _
              have HFN := Lib.hid (HFS.out.and hHeld (by simp))
              clear hHeld
              go_wp2_with fail
              go_roundw
              case rel => exact ⟨j + 1, by omega, by go_num, by rw [HT3.out], HFN⟩
              case measure => simp [intOf]; omega
        · have hje : j = n := by omega
          subst hje
          have hd : decide (j < j) = false := by simp
          have HMM : Hid ((lst.take j).any (fun p => decide (p = v.p)) = decide (v.p ∈ lst)) := Lib.hid (by rw [HNL.out, List.take_length, Bool.eq_iff_iff]; simp)
          rw [HMM.out]
          generalize hbb : decide (v.p ∈ lst) = bb at *
          have HBB := Lib.hid hbb
          have cr := HFS.out.cell HCR.out (by simp)
          have cp := HFS.out.cell HCP.out (by simp)
          have HFR := Lib.hid (HF.out.and HFS.out (by simp))
          have HOS := Lib.hid (own_keep HOW.out HFS.out (by simp))
          clear hbb HMM hj0 hjn
          by_cases hxr : x ≤ v.r
          · have b1 : decide (x ≤ v.r) = true := decide_eq_true hxr
            cases bb with
            | true =>
              have HLE : Hid (lst = hrdL x (L.take (q + 1))) := Lib.hid (by rw [HTK.out, ← HLS.out]; unfold stepH; rw [if_neg (by have := of_decide_eq_true HBB.out; simp [this])])
              go_wp2_with fail
              go_roundw
              case rel => exact ⟨q + 1, B, cB, lst, by omega, by go_num, by rw [HNL.out], by have := HLQ.out; omega, HLE, by rw [← HNL.out]; exact HOS, HFR⟩
              case measure => simp [intOf]; omega
            | false =>
              have HLE : Hid (lst ++ [v.p] = hrdL x (L.take (q + 1))) := Lib.hid (by rw [HTK.out, ← HLS.out]; unfold stepH; rw [if_pos ⟨hxr, of_decide_eq_false HBB.out⟩])
              have HN6 : Hid (j < 1000000) := Lib.hid (by omega)
              have HBS : Hid (w.heap.size ≤ ws.heap.size) := Lib.hid HFR.out.size
              go_wp2_with (first
                | (refine wpList_build_int rfl 52 3 _ rfl Try.underlying52 (v.p : Nat) .i64 8 el_i64r rfl ?_)
                | (refine wpList_append_one rfl _ _ 52 3 rfl Try.underlying52 1 8 el_i64r (by decide) w.heap.size (.slice B j cB) j (icells lst) [.int .i64 (v.p : Nat)] rfl (HOS.out.alloc _) (by have := HBS.out; simp; omega) rfl (by simp [Value.oneCell']) ws.heap.size 3 rfl (Blk.new _ _ _) HN6.out (by decide) ?_; intro A9 c9 w9 ho9 hf9))
              rw [bk_own] at hf9
              have HO9 := Lib.hid ho9
              have HF9 : Hid (Fr (bk B) ws w9) := Lib.hid ((((Fr.refl [] ws).alloc _).mono (T := bk B) (by simp)).trans hf9 (fun x hx _ => hx))
              clear ho9 hf9
              go_wp2_with fail
              go_roundw
              case rel => exact ⟨q + 1, A9, c9, lst ++ [v.p], by omega, by go_num, by rw [List.length_append, ← HNL.out]; rfl, by have := HLQ.out; simp; omega, HLE, by rw [List.length_append, ← HNL.out]; exact Lib.hid (by have := HO9.out; simpa [icells] using this), Lib.hid (HFR.out.trans HF9.out (fun y hy hl => absurd (own_ge HOS.out y hy) (by omega)))⟩
              case measure => simp [intOf]; omega
          · have b1 : decide (x ≤ v.r) = false := decide_eq_false hxr
            have HLE : Hid (lst = hrdL x (L.take (q + 1))) := Lib.hid (by rw [HTK.out, ← HLS.out]; unfold stepH; rw [if_neg (by simp [hxr])])
            go_wp2_with fail
            go_roundw
            case rel => exact ⟨q + 1, B, cB, lst, by omega, by go_num, by rw [HNL.out], by have := HLQ.out; omega, HLE, by rw [← HNL.out]; exact HOS, HFR⟩
            case measure => simp [intOf]; omega
    · have hqe : q = N := by omega
      have hd : decide (q < N) = false := decide_eq_false hlt
      have HLE : Hid (lst = res) := Lib.hid (by rw [HLS.out, hqe, HRE.out])
      go_wp2_with fail
      go_ret
      exact ⟨by rw [← HLE.out, HNL.out]; rfl, HF.out⟩
end Go.Proofs.Ytfmkegblhpnfcaa

namespace Go.Proofs.Ytfmkegblhpnfcaa
set_option maxRecDepth 100000
/-- the replicas below k voted in round r: replica i for h i -/
def genV (q r : Int) (h : Nat → List UInt8) : Nat → List Tv
  | 0 => []
  | k + 1 => ⟨q, r, k, h k⟩ :: genV q r h k
theorem genV_has (q r : Int) (h : Nat → List UInt8) (k p : Nat) : hasV (genV q r h k) q r p = decide (p < k) := by
  induction k with
  | zero => simp [genV, hasV]
  | succ k ih =>
    unfold genV hasV
    rw [List.any_cons]
    unfold hasV at ih
    rw [ih, Bool.eq_iff_iff]
    simp
    omega
theorem genV_gd {n q r : Int} (hq : q = 1 ∨ q = 2) (hr : 0 ≤ r ∧ r ≤ 1048576) (h : Nat → List UInt8) (hh : ∀ i, (h i).length = 32) (k : Nat) (hk : (k : Int) ≤ n) : Gd n (genV q r h k) := by
  induction k with
  | zero => trivial
  | succ k ih => exact ⟨⟨hq, hr, by simp only; omega, hh k⟩, by rw [genV_has]; simp, ih (by omega)⟩
theorem genV_len (q r : Int) (h : Nat → List UInt8) (k : Nat) : (genV q r h k).length = k := by
  induction k with
  | zero => rfl
  | succ k ih => simp [genV, ih]
theorem genV_add {n q r : Int} (hq : q = 1 ∨ q = 2) (hr : 0 ≤ r ∧ r ≤ 1048576) (h : Nat → List UInt8) (k : Nat) (hk : (k : Int) < n) : mayV n (genV q r h k) q r k = true ∧ addV n (genV q r h k) q r k (h k) = genV q r h (k + 1) := by
  have hm : mayV n (genV q r h k) q r k = true := by
    unfold mayV
    rw [show ((k : Int)).toNat = k by simp, genV_has]
    rw [show decide ((q = 1 ∨ q = 2) ∧ 0 ≤ r ∧ r ≤ 1048576 ∧ 0 ≤ (k : Int) ∧ (k : Int) < n) = true from decide_eq_true ⟨hq, hr.1, hr.2, by omega, hk⟩]
    simp
  unfold addV
  rw [hm]
  exact ⟨rfl, by simp [genV]⟩
theorem genV_all (q r : Int) (h : Nat → List UInt8) (k : Nat) : cntA (genV q r h k) q r = k := by
  induction k with
  | zero => rfl
  | succ k ih =>
    unfold genV
    rw [cntA_cons, ih]
    simp
theorem genV_for (q r : Int) (h : Nat → List UInt8) (k : Nat) (x : List UInt8) : cntH (genV q r h k) q r x = (List.range k).countP fun i => decide (h i = x) := by
  induction k with
  | zero => rfl
  | succ k ih =>
    unfold genV
    rw [cntH_cons, ih, List.range_succ, List.countP_append]
    simp
theorem genV_last {q r : Int} (hr : 0 ≤ r) (h : Nat → List UInt8) (k p : Nat) : lastV (genV q r h k) p = if p < k then r else -1 := by
  induction k with
  | zero => simp [genV, lastV]
  | succ k ih =>
    unfold genV lastV
    rw [ih]
    simp only
    by_cases h1 : k = p
    · subst h1
      rw [if_pos rfl, if_neg (by omega), if_pos (by omega)]
      omega
    · rw [if_neg h1]
      by_cases h2 : p < k
      · rw [if_pos h2, if_pos (by omega)]
      · rw [if_neg h2, if_neg (by omega)]
theorem count_below (n k : Nat) (hk : k ≤ n) : (List.range n).countP (fun p => decide (p < k)) = k := by
  induction n with
  | zero => simp; omega
  | succ n ih =>
    rw [List.range_succ, List.countP_append]
    by_cases h : k ≤ n
    · rw [ih h]
      have : ¬ n < k := by omega
      simp [this]
    · have e : k = n + 1 := by omega
      subst e
      have h2 : (List.range n).countP (fun p => decide (p < n + 1)) = n := by
        rw [List.countP_eq_length.2 (by intro a ha; have := List.mem_range.1 ha; simp; omega)]
        simp
      rw [h2]
      simp
theorem genV_heard {q r : Int} (hr : 0 ≤ r) (h : Nat → List UInt8) (k : Nat) (hk : k ≤ 64) (x : Int) : heardV (genV q r h k) x = if x ≤ r then k else 0 := by
  unfold heardV
  by_cases hx : x ≤ r
  · rw [if_pos hx]
    refine Eq.trans ?_ (count_below 64 k hk)
    apply List.countP_congr
    intro p _
    unfold heardP
    rw [genV_last hr]
    by_cases hp : p < k
    · simp [hp, hx]
      try omega
    · simp [hp]
  · rw [if_neg hx, List.countP_eq_zero]
    intro p _
    unfold heardP
    rw [genV_last hr]
    by_cases hp : p < k
    · simp [hp, hx]
    · simp [hp]
/-- at most F of n behind each other -/
theorem liars_le (F n L : Nat) (hF : F ≤ n) (hL : L < n) : ∀ k, k ≤ n → (List.range k).countP (fun i => decide ((i + L) % n < F)) ≤ (min F (min (L + k) n) - L) + min F (k - (n - L)) := by
  intro k
  induction k with
  | zero => intro _; simp
  | succ k ih =>
    intro hk
    have h1 := ih (by omega)
    rw [List.range_succ, List.countP_append]
    have hm : (k + L) % n = if k + L < n then k + L else k + L - n := by
      split
      · exact Nat.mod_eq_of_lt (by assumption)
      · rw [Nat.mod_eq_sub_mod (by omega), Nat.mod_eq_of_lt (by omega)]
    have h2 : [k].countP (fun i => decide ((i + L) % n < F)) = if (if k + L < n then k + L else k + L - n) < F then 1 else 0 := by
      rw [← hm]
      simp [List.countP_cons]
    rw [h2]
    by_cases c1 : k + L < n
    · rw [if_pos c1]
      by_cases c2 : k + L < F
      · rw [if_pos c2]
        omega
      · rw [if_neg c2]
        omega
    · rw [if_neg c1]
      by_cases c2 : k + L - n < F
      · rw [if_pos c2]
        omega
      · rw [if_neg c2]
        omega
theorem both_le (n : Nat) (s t : Nat → List UInt8) (lie : Nat → Bool) (a b : List UInt8) (hab : a ≠ b) (hst : ∀ i, lie i = false → s i = t i) :
    (List.range n).countP (fun i => decide (s i = a)) + (List.range n).countP (fun i => decide (t i = b)) ≤ n + (List.range n).countP lie := by
  induction n with
  | zero => simp
  | succ n ih =>
    simp only [List.range_succ, List.countP_append, List.countP_cons, List.countP_nil, Nat.zero_add]
    have h := hst n
    cases hl : lie n with
    | true =>
      split <;> split <;> simp <;> omega
    | false =>
      have e := h hl
      rw [e]
      by_cases h1 : t n = a
      · have h2 : ¬ t n = b := fun q => hab (h1.symm.trans q)
        simp [h1, h2, hab]
        omega
      · simp [h1]
        split <;> omega
end Go.Proofs.Ytfmkegblhpnfcaa

namespace Go.Proofs.Ytfmkegblhpnfcaa
set_option maxRecDepth 100000
namespace Ord
theorem compare_self (a : List UInt8) : Lib.compareBytes a a = 0 := by
  induction a with
  | nil => rfl
  | cons p ps ih =>
    have h1 : ¬ p < p := fun h => by have := UInt8.lt_iff_toNat_lt.1 h; omega
    rw [Lib.compareBytes, if_neg h1, if_neg h1]
    exact ih
theorem lessB_self (a : List UInt8) : lessB a a = false := by unfold lessB; rw [compare_self]; rfl

theorem compare_neg_trans : ∀ {a b c : List UInt8}, Lib.compareBytes a b < 0 → Lib.compareBytes b c < 0 → Lib.compareBytes a c < 0 := by
  intro a
  induction a with
  | nil =>
    intro b c h1 h2
    cases b with
    | nil => simp [Lib.compareBytes] at h1
    | cons y ys =>
      cases c with
      | nil => simp [Lib.compareBytes] at h2
      | cons z zs => simp [Lib.compareBytes]
  | cons x xs ih =>
    intro b c h1 h2
    cases b with
    | nil => simp [Lib.compareBytes] at h1
    | cons y ys =>
      cases c with
      | nil => simp [Lib.compareBytes] at h2
      | cons z zs =>
        unfold Lib.compareBytes at h1 h2 ⊢
        have e1 : x < y ↔ x.toNat < y.toNat := UInt8.lt_iff_toNat_lt
        have e2 : y < x ↔ y.toNat < x.toNat := UInt8.lt_iff_toNat_lt
        have e3 : y < z ↔ y.toNat < z.toNat := UInt8.lt_iff_toNat_lt
        have e4 : z < y ↔ z.toNat < y.toNat := UInt8.lt_iff_toNat_lt
        have e5 : x < z ↔ x.toNat < z.toNat := UInt8.lt_iff_toNat_lt
        have e6 : z < x ↔ z.toNat < x.toNat := UInt8.lt_iff_toNat_lt
        by_cases p1 : x < y
        · by_cases p2 : z < y
          · rw [if_neg (by rw [e3]; rw [e4] at p2; omega), if_pos p2] at h2
            omega
          · have : x < z := by rw [e5]; rw [e1] at p1; rw [e4] at p2; omega
            rw [if_pos this]
            omega
        · rw [if_neg p1] at h1
          by_cases p2 : y < x
          · rw [if_pos p2] at h1
            omega
          · rw [if_neg p2] at h1
            have hxy : x.toNat = y.toNat := by rw [e1] at p1; rw [e2] at p2; omega
            by_cases p3 : y < z
            · have : x < z := by rw [e5, hxy]; rwa [e3] at p3
              rw [if_pos this]
              omega
            · rw [if_neg p3] at h2
              by_cases p4 : z < y
              · rw [if_pos p4] at h2
                omega
              · rw [if_neg p4] at h2
                rw [if_neg (by rw [e5, hxy]; rwa [e3] at p3), if_neg (by rw [e6, hxy]; rwa [e4] at p4)]
                exact ih h1 h2
theorem lessB_trans {a b c : List UInt8} (h1 : lessB a b = true) (h2 : lessB b c = true) : lessB a c = true := by
  unfold lessB at *
  simp only [decide_eq_true_eq] at *
  exact compare_neg_trans h1 h2
end Ord
theorem less_self (a : List UInt8) : lessB a a = false := Ord.lessB_self a
theorem less_tot : ∀ {a b : List UInt8}, a.length = b.length → a ≠ b → lessB a b = true ∨ lessB b a = true := by
  intro a
  induction a with
  | nil =>
    intro b hl hne
    cases b with
    | nil => exact absurd rfl hne
    | cons y ys => simp at hl
  | cons x xs ih =>
    intro b hl hne
    cases b with
    | nil => simp at hl
    | cons y ys =>
      unfold lessB at ih ⊢
      simp only [decide_eq_true_eq] at ih ⊢
      unfold Lib.compareBytes
      by_cases h1 : x < y
      · left
        rw [if_pos h1]
        decide
      · by_cases h2 : y < x
        · right
          rw [if_pos h2]
          decide
        · rw [if_neg h1, if_neg h2, if_neg h2, if_neg h1]
          have e : x = y := by
            have h3 : ¬ x.toNat < y.toNat := fun h => h1 (UInt8.lt_iff_toNat_lt.2 h)
            have h4 : ¬ y.toNat < x.toNat := fun h => h2 (UInt8.lt_iff_toNat_lt.2 h)
            exact UInt8.toNat_inj.1 (by omega)
          subst e
          exact ih (by simpa using hl) (fun h => hne (by rw [h]))
theorem less_asym {a b : List UInt8} (h1 : lessB a b = true) (h2 : lessB b a = true) : False := by
  have := Ord.lessB_trans h1 h2
  rw [less_self] at this
  cases this
/-- h has the most votes, and is the least of those that have -/
structure Best (c : List UInt8 → Nat) (h : List UInt8) : Prop where
  most : ∀ x, c x ≤ c h
  least : 0 < c h → ∀ x, c x = c h → x = h ∨ lessB h x = true
theorem mst_zero {T : List Tv} {k r : Int} (h : cntA T k r = 0) : mstV T k r = zh32 := by
  induction T with
  | nil => rfl
  | cons v T ih =>
    rw [cntA_cons] at h
    have hc : ¬ (v.k = k ∧ v.r = r) := fun hc => by rw [if_pos hc] at h; omega
    rw [if_neg hc] at h
    unfold mstV
    rw [if_neg hc]
    exact ih (by omega)
theorem cnt_le_all (T : List Tv) (k r : Int) (h : List UInt8) : cntH T k r h ≤ cntA T k r := by
  induction T with
  | nil => simp [cntH, cntA]
  | cons v T ih =>
    rw [cntH_cons, cntA_cons]
    by_cases hc : v.k = k ∧ v.r = r
    · rw [if_pos hc]
      split <;> omega
    · rw [if_neg hc, if_neg (fun h => hc ⟨h.1, h.2.1⟩)]
      omega
theorem mst_best {n : Int} {T : List Tv} (hT : Gd n T) (k r : Int) : Best (cntH T k r) (mstV T k r) := by
  induction T with
  | nil => exact ⟨fun x => by simp [cntH], fun h => by simp [cntH] at h⟩
  | cons v T ih =>
    have hb := ih hT.2.2
    have hml : (mstV T k r).length = 32 := mstV_len hT.2.2 k r
    have hvl : v.h.length = 32 := hT.1.h
    by_cases hc : v.k = k ∧ v.r = r
    · have hcn : ∀ x, cntH (v :: T) k r x = cntH T k r x + if v.h = x then 1 else 0 := fun x => by
        rw [cntH_cons]
        simp [hc]
      have hm : mstV (v :: T) k r = betV (cntH (v :: T) k r) (mstV T k r) v.h := by
        show (if v.k = k ∧ v.r = r then _ else _) = _
        rw [if_pos hc]
      rw [hm]
      generalize mstV T k r = m at *
      unfold betV
      have em := hcn m
      have ev := hcn v.h
      rw [if_pos rfl] at ev
      split
      · rename_i hlt
        have hne : ¬ v.h = m := by
          rintro e
          rw [e] at hlt
          rcases hlt with h | h
          · omega
          · rw [less_self] at h
            exact absurd h.2 (by simp)
        rw [if_neg hne] at em
        refine ⟨fun x => ?_, fun hp x hx => ?_⟩
        · by_cases hx : v.h = x
          · rw [← hx]
            rcases hlt with h | h <;> omega
          · rw [hcn x, if_neg hx, em]
            have := hb.most x
            omega
        · by_cases hxv : v.h = x
          · rw [← hxv] at hx ⊢
            rcases hlt with h | h
            · omega
            · exact .inr h.2
          · rw [hcn x, if_neg hxv, em] at hx
            rw [em] at hp
            exact hb.least (by omega) x (by omega)
      · rename_i hlt
        have h1 : ¬ cntH (v :: T) k r v.h < cntH (v :: T) k r m := fun h => hlt (.inl h)
        have h2 : cntH (v :: T) k r m = cntH (v :: T) k r v.h → ¬ lessB m v.h = true := fun h q => hlt (.inr ⟨h, q⟩)
        refine ⟨fun x => ?_, fun hp x hx => ?_⟩
        · by_cases hxv : v.h = x
          · rw [← hxv]
            exact Nat.le_refl _
          · rw [hcn x, if_neg hxv]
            have h3 := hb.most x
            have h4 : cntH T k r m ≤ cntH (v :: T) k r m := by rw [em]; omega
            omega
        · by_cases hxv : v.h = x
          · exact .inl hxv.symm
          · rw [hcn x, if_neg hxv] at hx
            have h3 := hb.most x
            by_cases hmv : v.h = m
            · rw [if_pos hmv] at em
              omega
            · rw [if_neg hmv] at em
              have h5 : cntH (v :: T) k r m = cntH (v :: T) k r v.h := by omega
              have h6 := h2 h5
              have h7 : lessB v.h m = true := by
                rcases less_tot (hvl.trans hml.symm) hmv with h | h
                · exact h
                · exact absurd h h6
              rcases hb.least (by omega) x (by omega) with h | h
              · rw [h]
                exact .inr h7
              · exact .inr (Ord.lessB_trans h7 h)
    · have hcn : ∀ x, cntH (v :: T) k r x = cntH T k r x := fun x => by
        rw [cntH_cons, if_neg (fun h => hc ⟨h.1, h.2.1⟩)]
        omega
      have hm : mstV (v :: T) k r = mstV T k r := by
        show (if v.k = k ∧ v.r = r then _ else _) = _
        rw [if_neg hc]
      rw [hm]
      exact ⟨fun x => by rw [hcn, hcn]; exact hb.most x, fun hp x hx => by rw [hcn] at hp; rw [hcn, hcn] at hx; exact hb.least hp x hx⟩
theorem best_one {c : List UInt8 → Nat} {a b : List UInt8} (ha : Best c a) (hb : Best c b) (hp : 0 < c a) : a = b := by
  have h1 := ha.most b
  have h2 := hb.most a
  rcases ha.least hp b (by omega) with h | h
  · exact h.symm
  · rcases hb.least (by omega) a (by omega) with q | q
    · exact q
    · exact (less_asym h q).elim
end Go.Proofs.Ytfmkegblhpnfcaa

namespace Go.Proofs.Ytfmkegblhpnfcaa
set_option maxRecDepth 100000
open Go.RowKit
def stepM (c : List UInt8 → Nat) (k r : Int) (b : List UInt8) (v : Tv) : List UInt8 := if v.k = k ∧ v.r = r then (if c b < c v.h ∨ (c v.h = c b ∧ lessB v.h b = true) then v.h else b) else b
/-- what Most finds: the hash and its number -/
def rstep (c : List UInt8 → Nat) (k r : Int) (s : List UInt8 × Nat) (v : Tv) : List UInt8 × Nat := if v.k = k ∧ v.r = r then (if s.2 < c v.h ∨ (c v.h = s.2 ∧ lessB v.h s.1 = true) then (v.h, c v.h) else s) else s
def rmost (c : List UInt8 → Nat) (k r : Int) (L : List Tv) : List UInt8 × Nat := L.foldl (rstep c k r) (zh32, 0)
theorem rmost_take {l : List Tv} {q : Nat} {v : Tv} (h : l[q]? = some v) (c : List UInt8 → Nat) (k r : Int) : rmost c k r (l.take (q + 1)) = rstep c k r (rmost c k r (l.take q)) v := by
  unfold rmost
  rw [List.take_add_one, h, List.foldl_append]
  rfl
theorem bytesLess_eq : ∀ a b : List UInt8, Op.bytesLess a b = lessB a b := by
  intro a
  induction a with
  | nil => intro b; cases b <;> simp [Op.bytesLess, lessB, Lib.compareBytes]
  | cons x xs ih =>
    intro b
    cases b with
    | nil => simp [Op.bytesLess, lessB, Lib.compareBytes]
    | cons y ys =>
      have e1 : x < y ↔ x.toNat < y.toNat := UInt8.lt_iff_toNat_lt
      have e2 : y < x ↔ y.toNat < x.toNat := UInt8.lt_iff_toNat_lt
      unfold Op.bytesLess
      rw [ih ys]
      unfold lessB
      rw [show Lib.compareBytes (x :: xs) (y :: ys) = if x < y then -1 else if y < x then 1 else Lib.compareBytes xs ys from rfl]
      by_cases p1 : x < y
      · simp [p1]
      · by_cases p2 : y < x
        · have : ¬ x = y := fun e => by subst e; exact p1 p2
          simp [p1, p2, this]
        · have : x = y := UInt8.toNat_inj.1 (by rw [e1] at p1; rw [e2] at p2; omega)
          subst this
          simp [p1]
theorem lss_str (a b : List UInt8) (w : World) (P : Program) : (Op.stringOp .lss ⟨a.toArray⟩ ⟨b.toArray⟩).run P w = .ok (.bool (lessB a b)) w := by
  unfold Op.stringOp
  simp only [Sem.run_pure]
  rw [← bytesLess_eq]
  rw [ByteArray.toList_eq, ByteArray.toList_eq]
theorem row_rv : RowTy Try.prog 76 35 := ⟨by kernel_rfl, by kernel_rfl⟩
def zRv : Array Value := (rcells ⟨0, 0, 0, zh32⟩).toArray
end Go.Proofs.Ytfmkegblhpnfcaa
