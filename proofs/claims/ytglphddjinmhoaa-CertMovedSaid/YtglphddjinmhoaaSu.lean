/- Sorting numbers of 64 digits: what a row of them is; what an exchange makes of it; which of two is less. -/
import Derived.Test.YtglphddjinmhoaaHelp
import Derived.Test.YtglphddjinmhoaaReg2
import Derived.Sort.Row
import Derived.Sort.LotA
import Derived.Sort.LotB
import Derived.Sort.LotC
import Derived.Sort.LotD3
import Derived.Sort.WalkA
import Derived.Sort.WalkB3
import Derived.Sort.WalkC4
import Derived.Sort.WalkA6
namespace Go.Proofs.Ytglphddjinmhoaa
set_option maxRecDepth 100000
open Go.RowKit Go.Sort

/-- the row of numbers d lies in block blk from off on, and may be stored into -/
def Hu (w : World) (blk off : Nat) (d : Array Int) : Prop := Go.Sort.Holds (Value.int .u64) w blk off d
section
variable {w w' : World} {blk off : Nat} {d : Array Int} {S : List Nat}
theorem Hu.cell (h : Hu w blk off d) {j : Nat} (hj : j < d.size) : w.cell? ⟨blk, off + j, none⟩ = some (.int .u64 d[j]!) := (h j hj).1
theorem Hu.frozen (h : Hu w blk off d) {j : Nat} (hj : j < d.size) : w.frozen? ⟨blk, off + j, none⟩ = false := (h j hj).2
theorem frozen_of_heap {a : Addr} (h : w'.heap[a.block]? = w.heap[a.block]?) : w'.frozen? a = w.frozen? a := by
  unfold World.frozen?
  rw [h]
theorem Hu.keep (h : Hu w blk off d) (hf : Fr S w w') (hn : ¬ blk ∈ S) : Hu w' blk off d := fun j hj =>
  ⟨hf.cell (h j hj).1 hn, by
    rw [frozen_of_heap (hf.block blk (World.block_lt_of_cell? w _ (h j hj).1) hn)]
    exact (h j hj).2⟩
theorem Hu.drewN (h : Hu w blk off d) (n : Nat) : Hu (w.drewN n) blk off d := h
theorem Hu.swap (h : Hu w blk off d) {i j : Nat} (hi : i < d.size) (hj : j < d.size) :
    Hu ((w.setCell ⟨blk, off + i, none⟩ (.int .u64 d[j]!)).setCell ⟨blk, off + j, none⟩ (.int .u64 d[i]!)) blk off (swp d i j) := by
  have e := putRow_swp (Value.int .u64) w blk off d i j hi hj
  rw [putRow_self _ _ _ _ _ h] at e
  unfold Hu
  rw [e]
  exact holds_putRow _ _ _ _ d _ h (size_swp d i j)
theorem Fr.swap (w : World) (blk i j : Nat) (u v : Value) : Fr [blk] w ((w.setCell ⟨blk, i, none⟩ u).setCell ⟨blk, j, none⟩ v) :=
  ((Fr.refl [blk] w).setCell _ (fun _ => by simp) u).setCell _ (fun _ => by simp) v
/-- a row that a call has turned into another of the same length -/
def Su (w : World) (blk off : Nat) (d : Array Int) (w' : World) (d' : Array Int) : Prop := Hu w' blk off d' ∧ d'.size = d.size ∧ Fr [blk] w w'
theorem Su.start (h : Hu w blk off d) : Su w blk off d w d := ⟨h, rfl, Fr.refl _ _⟩
theorem Su.quiet {d' : Array Int} {w2 : World} (h : Su w blk off d w' d') (hf : Fr [] w' w2) : Su w blk off d w2 d' :=
  ⟨h.1.keep hf (by simp), h.2.1, h.2.2.trans hf (by simp)⟩
theorem Su.swap {d' : Array Int} (h : Su w blk off d w' d') {i j : Nat} (hi : i < d.size) (hj : j < d.size) :
    Su w blk off d ((w'.setCell ⟨blk, off + i, none⟩ (.int .u64 d'[j]!)).setCell ⟨blk, off + j, none⟩ (.int .u64 d'[i]!)) (swp d' i j) :=
  ⟨h.1.swap (by rw [h.2.1]; exact hi) (by rw [h.2.1]; exact hj), by rw [size_swp, h.2.1], h.2.2.trans (Fr.swap _ _ _ _ _ _) (fun _ hx _ => hx)⟩
theorem Su.trans {d' d'' : Array Int} {w2 : World} (h : Su w blk off d w' d') (k : Su w' blk off d' w2 d'') : Su w blk off d w2 d'' :=
  ⟨k.1, k.2.1.trans h.2.1, h.2.2.trans k.2.2 (fun _ hx _ => hx)⟩
end

theorem isnan_u (x : Int) (w : World) : Calls Try.prog 102 #[.int .u64 x] w fun e w' => e = .returned (.bool false) ∧ w' = w := by
  have hne : (x != x) = false := by simp
  go_enter Try.func102, Try.ntmps102
  go_wp2
  go_ret
  exact ⟨rfl, rfl⟩
theorem less_u (x y : Int) (w : World) : Calls Try.prog 79 #[.int .u64 x, .int .u64 y] w fun e w' => e = .returned (.bool (ltInt x y)) ∧ w' = w := by
  unfold ltInt
  go_enter Try.func79, Try.ntmps79
  go_wp2_with (go_at_call 102; refine (isnan_u _ _).mono ?_; rintro e w' ⟨rfl, rfl⟩)
  go_ret
  exact ⟨rfl, rfl⟩
end Go.Proofs.Ytglphddjinmhoaa
