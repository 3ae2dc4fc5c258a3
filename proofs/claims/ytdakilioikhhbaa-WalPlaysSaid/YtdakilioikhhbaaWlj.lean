/- What a log and its disk are between crashes: the records that were put well, and maybe one more behind them on a disk that is dead. Plain lemmas. -/
import Derived.Test.YtdakilioikhhbaaWls
import Derived.Test.YtdakilioikhhbaaWlr
namespace Go.Proofs.Ytdakilioikhhbaa
set_option maxRecDepth 100000
open Go.RowKit

/-- the disk d of a log with the records L; nx was put since, and not well -/
structure Jl (d : Dsk) (L nx : List (List UInt8)) : Prop where
  tail : ∃ t, d.row = rowsB L ++ t ∧ (t = [] ∨ ∃ b q, nx = b :: q ∧ t = rowB b) ∧ (d.dead = false → t = [] ∧ nx = [])
  syn : d.syn = (rowsB L).length
  left : d.left ≤ 9223372036854775807
theorem Jl.start : Jl (cl []) [] [] := ⟨⟨[], rfl, .inl rfl, fun _ => ⟨rfl, rfl⟩⟩, rfl, Nat.zero_le _⟩
theorem Jl.cl (L : List (List UInt8)) : Jl (cl L) L [] := ⟨⟨[], by simp [Go.Proofs.Ytdakilioikhhbaa.cl, cs], .inl rfl, fun _ => ⟨rfl, rfl⟩⟩, rfl, Nat.zero_le _⟩
theorem Jl.len {d : Dsk} {L nx : List (List UInt8)} (h : Jl d L nx) {M : Nat} (hn : ∀ b ∈ nx, b.length ≤ M) (hM : M ≤ 65536) : d.row.length ≤ (rowsB L).length + M + 10 := by
  obtain ⟨t, h1, h2, _⟩ := h.tail
  rw [h1, List.length_append]
  rcases h2 with rfl | ⟨b, q, rfl, rfl⟩
  · simp; omega
  · have h3 := hn b (by simp)
    have h4 := rowB_len b (by omega)
    omega
theorem Jl.dok {d : Dsk} {L nx : List (List UInt8)} (h : Jl d L nx) (hn : d.row.length ≤ 1073741824) : DOk d := by
  refine ⟨?_, h.left, hn⟩
  obtain ⟨t, h1, _⟩ := h.tail
  rw [h.syn, h1, List.length_append]
  omega
theorem Jl.fuse {d : Dsk} {L nx : List (List UInt8)} (h : Jl d L nx) (k : Nat) (hk : k ≤ 9223372036854775807) : Jl { d with fused := true, left := k } L nx := ⟨h.tail, h.syn, hk⟩
theorem passD_left (d : Dsk) (h : d.left ≤ 9223372036854775807) : d.passD.left ≤ 9223372036854775807 := by
  unfold Dsk.passD
  split
  · split
    · simp only; omega
    · exact h
  · exact h
theorem passB_dead {d : Dsk} (h : d.passB = true) : d.dead = false := by
  unfold Dsk.passB at h
  cases hd : d.dead
  · rfl
  · rw [hd] at h; simp at h
theorem passD_live {d : Dsk} (h : d.passB = true) : d.passD.dead = false := by
  have hd := passB_dead h
  unfold Dsk.passD
  rw [if_pos h]
  split
  · exact hd
  · exact hd
theorem passD_dead {d : Dsk} (h : d.passB = false) : d.passD.dead = true := by
  unfold Dsk.passD
  rw [if_neg (by simp [h])]
theorem Jl.yes {d : Dsk} {L nx : List (List UInt8)} (h : Jl d L nx) (b : List UInt8) (hb : d.logB b = true) : Jl (d.logD b) (L ++ [b]) nx ∧ nx = [] := by
  unfold Dsk.logB at hb
  simp only [Bool.and_eq_true] at hb
  obtain ⟨hp, hq⟩ := hb
  obtain ⟨t, h1, _, h3⟩ := h.tail
  obtain ⟨rfl, rfl⟩ := h3 (passB_dead hp)
  have hrow : (d.put b |>.row) = d.row ++ b := by unfold Dsk.put; rw [if_pos hp]
  have hrow : ((d.put (rowB b)).row) = rowsB (L ++ [b]) := by unfold Dsk.put; rw [if_pos hp]; simp [h1, rowsB_snoc]
  have hlg : d.logD b = { (d.put (rowB b)).passD with syn := (d.put (rowB b)).row.length } := by
    unfold Dsk.logD Dsk.sync
    rw [if_pos hp, if_pos hq]
  have hpl : (d.put (rowB b)).left ≤ 9223372036854775807 := by
    unfold Dsk.put
    rw [if_pos hp]
    exact passD_left d h.left
  rw [hlg]
  refine ⟨⟨⟨[], ?_, .inl rfl, fun _ => ⟨rfl, rfl⟩⟩, ?_, passD_left _ hpl⟩, rfl⟩
  · simp only [passD_row, hrow, List.append_nil]
  · simp only [hrow]
theorem Jl.no {d : Dsk} {L nx : List (List UInt8)} (h : Jl d L nx) (b : List UInt8) (hb : d.logB b = false) : Jl (d.logD b) L (nx ++ [b]) := by
  obtain ⟨t, h1, h2, h3⟩ := h.tail
  unfold Dsk.logB at hb
  cases hp : d.passB
  · have hd : d.logD b = d.passD := by unfold Dsk.logD Dsk.put; rw [hp]; rfl
    rw [hd]
    refine ⟨⟨t, by rw [passD_row]; exact h1, ?_, fun hx => by rw [passD_dead hp] at hx; cases hx⟩, by rw [passD_syn]; exact h.syn, passD_left _ h.left⟩
    rcases h2 with rfl | ⟨x, q, rfl, rfl⟩
    · exact .inl rfl
    · exact .inr ⟨x, q ++ [b], rfl, rfl⟩
  · rw [hp, Bool.true_and] at hb
    obtain ⟨rfl, rfl⟩ := h3 (passB_dead hp)
    have hlg : d.logD b = (d.put (rowB b)).passD := by unfold Dsk.logD Dsk.sync; rw [if_pos hp, hb]; rfl
    have hput : d.put (rowB b) = { d.passD with row := d.row ++ rowB b } := by unfold Dsk.put; rw [if_pos hp]
    rw [hlg]
    refine ⟨⟨rowB b, ?_, .inr ⟨b, [], rfl, rfl⟩, fun hx => by rw [passD_dead hb] at hx; cases hx⟩, ?_, passD_left _ ?_⟩
    · rw [passD_row, hput]; simp [h1]
    · rw [passD_syn, hput]; show d.passD.syn = _; rw [passD_syn]; exact h.syn
    · rw [hput]; exact passD_left d h.left
/-- what a crash leaves: the records, maybe with the first of those that were not put well, and nothing whole behind them -/
theorem Jl.crash {d : Dsk} {L nx : List (List UInt8)} (h : Jl d L nx) (hs : Short L) (hn : ∀ b ∈ nx, b.length ≤ 65536) (keep : Int) :
    ∃ L' T, d.crash keep = cs (rowsB L' ++ T) ((rowsB L').length + T.length) ∧ Split (rowsB L' ++ T) L' T ∧ T.length ≤ 65546 ∧ (L' = L ∨ ∃ b q, nx = b :: q ∧ L' = L ++ [b]) := by
  obtain ⟨t, h1, h2, _⟩ := h.tail
  have hc : d.crash keep = (cs (rowsB L ++ t) (rowsB L).length).crash keep := by
    unfold Dsk.crash keptN
    simp only [cs, h1, h.syn]
  rw [hc, crash_keep]
  rcases h2 with rfl | ⟨b, q, rfl, rfl⟩
  · exact ⟨L, [], by simp, split_all hs |> (by simpa using ·), by simp, .inl rfl⟩
  · have hb := hn b (by simp)
    have hbl := rowB_len b (by omega)
    by_cases hk : min keep.toNat (rowB b).length < (rowB b).length
    · exact ⟨L, _, rfl, ⟨rfl, hs, stop_cut (by omega) hk⟩, by rw [List.length_take]; omega, .inl rfl⟩
    · refine ⟨L ++ [b], [], ?_, ⟨rfl, hs.snoc hb, .inl rfl⟩, by simp, .inr ⟨b, q, rfl, rfl⟩⟩
      rw [List.take_of_length_le (by omega), rowsB_snoc]
      simp
theorem rowsB_lenM (M : Nat) (hM : M ≤ 65536) : ∀ (l : List (List UInt8)), (∀ b ∈ l, b.length ≤ M) → (rowsB l).length ≤ (M + 10) * l.length
  | [], _ => by simp [rowsB]
  | b :: l, h => by
    have h1 := rowsB_lenM M hM l (fun x hx => h x (by simp [hx]))
    have h3 := h b (by simp)
    have h2 := rowB_len b (by omega)
    rw [rowsB_cons, List.length_append, List.length_cons, Nat.mul_add]
    omega
/-- a list of rows that is only read, apart from the blocks of T -/
def GL (w : World) (T : List Nat) (A : Option Addr) (n : Nat) (rs : List RowV) : Prop := Rl w A n rs ∧ ∀ x ∈ blks A rs, ¬ x ∈ T ∧ x < w.heap.size
theorem GL.keep {w w' : World} {S T T' : List Nat} {A : Option Addr} {n : Nat} {rs : List RowV} (h : GL w T A n rs) (hf : Fr S w w') (hS : ∀ x ∈ S, x ∈ T) (hT : ∀ x ∈ T', x < w.heap.size → x ∈ T) : GL w' T' A n rs := by
  refine ⟨h.1.keep hf (fun x hx hm => (h.2 x hx).1 (hS x hm)), fun x hx => ⟨fun hm => (h.2 x hx).1 (hT x hm (h.2 x hx).2), ?_⟩⟩
  have h1 := (h.2 x hx).2
  have h2 := hf.size
  omega
/-- what a log and a row of rows share no block with -/
theorem GL.nil (w : World) (T : List Nat) : GL w T none 0 [] := ⟨Rl.nil w none, by intro x hx; simp [blks, bk] at hx⟩
end Go.Proofs.Ytdakilioikhhbaa
