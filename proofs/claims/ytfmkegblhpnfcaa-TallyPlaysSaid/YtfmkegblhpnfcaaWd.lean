/- Package wire: stamps and acks, votes, denials as values; what writes into a writer. -/
import Derived.Test.YtfmkegblhpnfcaaCm3
set_option linter.unusedSimpArgs false
set_option linter.unusedVariables false
namespace Go.Proofs.Ytfmkegblhpnfcaa
open Go.RowKit
set_option maxRecDepth 100000

theorem post_cell (pre hs post : List Value) (hl : hs.length = 32) (k : Nat) {v : Value} (hv : post[k]? = some v) : (pre ++ (hs ++ post))[pre.length + 32 + k]? = some v := by
  rw [List.getElem?_append_right (by omega), List.getElem?_append_right (by omega), ← hv]
  congr 1
  omega
/-- a stamp, or an ack -/
structure Wst where
  r : Int
  c : Int
  s : Int
  h : List UInt8
  t : Nat
  b : Int
  m : Int
def Wst.cells (x : Wst) : List Value := [.int .i64 x.r, .int .i64 x.c, .int .i64 x.s] ++ (x.h.map by8 ++ [.int .u64 (x.t : Int), .int .i64 x.b, .int .i64 x.m])
def Wst.val (x : Wst) : Value := .agg x.cells.toArray
structure Wst.Ok (x : Wst) : Prop where
  r : i64In x.r
  c : i64In x.c
  s : i64In x.s
  h : x.h.length = 32
  t : x.t < 18446744073709551616
  b : i64In x.b
  m : i64In x.m
theorem Wst.len {x : Wst} (h : x.h.length = 32) : x.cells.length = 38 := by simp [Wst.cells, h]
theorem Wst.one (x : Wst) : ∀ v ∈ x.cells, v.oneCell' = true := by
  intro v hv
  simp only [Wst.cells, List.mem_cons, List.mem_append, List.not_mem_nil, or_false] at hv
  rcases hv with (rfl | rfl | rfl) | hv | rfl | rfl | rfl
  · rfl
  · rfl
  · rfl
  · exact by8_one x.h v hv
  · rfl
  · rfl
  · rfl
/-- its fields, where it lies from o on -/
structure Wst.At (w : World) (g o : Nat) (x : Wst) : Prop where
  all : w.rangeAt g o x.cells
  hash : w.rangeAt g (o + 3) (x.h.map by8)
  name : w.rangeAt g (o + 1) [.int .i64 x.c, .int .i64 x.s]
  sig : w.rangeAt g (o + 36) [.int .i64 x.b, .int .i64 x.m]
  r : w.cell? ⟨g, o + 0, none⟩ = some (.int .i64 x.r)
  c : w.cell? ⟨g, o + 1, none⟩ = some (.int .i64 x.c)
  s : w.cell? ⟨g, o + 2, none⟩ = some (.int .i64 x.s)
  t : w.cell? ⟨g, o + 35, none⟩ = some (.int .u64 (x.t : Int))
  b : w.cell? ⟨g, o + 36, none⟩ = some (.int .i64 x.b)
  m : w.cell? ⟨g, o + 37, none⟩ = some (.int .i64 x.m)
theorem Wst.at_of {w : World} {g o : Nat} {x : Wst} (hr : w.rangeAt g o x.cells) (hh : x.h.length = 32) : x.At w g o := by
  have hl : (x.h.map by8).length = 32 := by rw [List.length_map]; exact hh
  have c_r : w.cell? ⟨g, o + 0, none⟩ = some (.int .i64 x.r) := hr 0 _ rfl
  have c_c : w.cell? ⟨g, o + 1, none⟩ = some (.int .i64 x.c) := hr 1 _ rfl
  have c_s : w.cell? ⟨g, o + 2, none⟩ = some (.int .i64 x.s) := hr 2 _ rfl
  have c_t : w.cell? ⟨g, o + 35, none⟩ = some (.int .u64 (x.t : Int)) := hr 35 _ (post_cell [.int .i64 x.r, .int .i64 x.c, .int .i64 x.s] (x.h.map by8) [.int .u64 (x.t : Int), .int .i64 x.b, .int .i64 x.m] hl 0 rfl)
  have c_b : w.cell? ⟨g, o + 36, none⟩ = some (.int .i64 x.b) := hr 36 _ (post_cell [.int .i64 x.r, .int .i64 x.c, .int .i64 x.s] (x.h.map by8) [.int .u64 (x.t : Int), .int .i64 x.b, .int .i64 x.m] hl 1 rfl)
  have c_m : w.cell? ⟨g, o + 37, none⟩ = some (.int .i64 x.m) := hr 37 _ (post_cell [.int .i64 x.r, .int .i64 x.c, .int .i64 x.s] (x.h.map by8) [.int .u64 (x.t : Int), .int .i64 x.b, .int .i64 x.m] hl 2 rfl)
  have r_name : w.rangeAt g (o + 1) [.int .i64 x.c, .int .i64 x.s] := by
    intro j v hv
    rcases j with _ | j
    · simp at hv; subst hv; exact c_c
    rcases j with _ | j
    · simp at hv; subst hv; exact c_s
    · simp at hv
  have r_sig : w.rangeAt g (o + 36) [.int .i64 x.b, .int .i64 x.m] := by
    intro j v hv
    rcases j with _ | j
    · simp at hv; subst hv; exact c_b
    rcases j with _ | j
    · simp at hv; subst hv; exact c_m
    · simp at hv
  have r_hash : w.rangeAt g (o + 3) (x.h.map by8) := rangeAt_sub (xs := [.int .i64 x.r, .int .i64 x.c, .int .i64 x.s]) (ys := x.h.map by8) (zs := [.int .u64 (x.t : Int), .int .i64 x.b, .int .i64 x.m]) hr
  exact ⟨hr, r_hash, r_name, r_sig, c_r, c_c, c_s, c_t, c_b, c_m⟩
theorem Wst.At.keep {w w' : World} {g o : Nat} {x : Wst} {S : List Nat} (h : x.At w g o) (hf : Fr S w w') (hn : ¬ g ∈ S) : x.At w' g o :=
  ⟨hf.range h.all hn, hf.range h.hash hn, hf.range h.name hn, hf.range h.sig hn, hf.cell h.r hn, hf.cell h.c hn, hf.cell h.s hn, hf.cell h.t hn, hf.cell h.b hn, hf.cell h.m hn⟩
/-- a vote -/
structure Wvt where
  k : Int
  e : Int
  r : Int
  p : Int
  h : List UInt8
  b : Int
  m : Int
def Wvt.cells (x : Wvt) : List Value := [.int .i64 x.k, .int .i64 x.e, .int .i64 x.r, .int .i64 x.p] ++ (x.h.map by8 ++ [.int .i64 x.b, .int .i64 x.m])
def Wvt.val (x : Wvt) : Value := .agg x.cells.toArray
structure Wvt.Ok (x : Wvt) : Prop where
  k : i64In x.k
  e : i64In x.e
  r : i64In x.r
  p : i64In x.p
  h : x.h.length = 32
  b : i64In x.b
  m : i64In x.m
theorem Wvt.len {x : Wvt} (h : x.h.length = 32) : x.cells.length = 38 := by simp [Wvt.cells, h]
theorem Wvt.one (x : Wvt) : ∀ v ∈ x.cells, v.oneCell' = true := by
  intro v hv
  simp only [Wvt.cells, List.mem_cons, List.mem_append, List.not_mem_nil, or_false] at hv
  rcases hv with (rfl | rfl | rfl | rfl) | hv | rfl | rfl
  · rfl
  · rfl
  · rfl
  · rfl
  · exact by8_one x.h v hv
  · rfl
  · rfl
/-- its fields, where it lies from o on -/
structure Wvt.At (w : World) (g o : Nat) (x : Wvt) : Prop where
  all : w.rangeAt g o x.cells
  hash : w.rangeAt g (o + 4) (x.h.map by8)
  sig : w.rangeAt g (o + 36) [.int .i64 x.b, .int .i64 x.m]
  k : w.cell? ⟨g, o + 0, none⟩ = some (.int .i64 x.k)
  e : w.cell? ⟨g, o + 1, none⟩ = some (.int .i64 x.e)
  r : w.cell? ⟨g, o + 2, none⟩ = some (.int .i64 x.r)
  p : w.cell? ⟨g, o + 3, none⟩ = some (.int .i64 x.p)
  b : w.cell? ⟨g, o + 36, none⟩ = some (.int .i64 x.b)
  m : w.cell? ⟨g, o + 37, none⟩ = some (.int .i64 x.m)
theorem Wvt.at_of {w : World} {g o : Nat} {x : Wvt} (hr : w.rangeAt g o x.cells) (hh : x.h.length = 32) : x.At w g o := by
  have hl : (x.h.map by8).length = 32 := by rw [List.length_map]; exact hh
  have c_k : w.cell? ⟨g, o + 0, none⟩ = some (.int .i64 x.k) := hr 0 _ rfl
  have c_e : w.cell? ⟨g, o + 1, none⟩ = some (.int .i64 x.e) := hr 1 _ rfl
  have c_r : w.cell? ⟨g, o + 2, none⟩ = some (.int .i64 x.r) := hr 2 _ rfl
  have c_p : w.cell? ⟨g, o + 3, none⟩ = some (.int .i64 x.p) := hr 3 _ rfl
  have c_b : w.cell? ⟨g, o + 36, none⟩ = some (.int .i64 x.b) := hr 36 _ (post_cell [.int .i64 x.k, .int .i64 x.e, .int .i64 x.r, .int .i64 x.p] (x.h.map by8) [.int .i64 x.b, .int .i64 x.m] hl 0 rfl)
  have c_m : w.cell? ⟨g, o + 37, none⟩ = some (.int .i64 x.m) := hr 37 _ (post_cell [.int .i64 x.k, .int .i64 x.e, .int .i64 x.r, .int .i64 x.p] (x.h.map by8) [.int .i64 x.b, .int .i64 x.m] hl 1 rfl)
  have r_sig : w.rangeAt g (o + 36) [.int .i64 x.b, .int .i64 x.m] := by
    intro j v hv
    rcases j with _ | j
    · simp at hv; subst hv; exact c_b
    rcases j with _ | j
    · simp at hv; subst hv; exact c_m
    · simp at hv
  have r_hash : w.rangeAt g (o + 4) (x.h.map by8) := rangeAt_sub (xs := [.int .i64 x.k, .int .i64 x.e, .int .i64 x.r, .int .i64 x.p]) (ys := x.h.map by8) (zs := [.int .i64 x.b, .int .i64 x.m]) hr
  exact ⟨hr, r_hash, r_sig, c_k, c_e, c_r, c_p, c_b, c_m⟩
theorem Wvt.At.keep {w w' : World} {g o : Nat} {x : Wvt} {S : List Nat} (h : x.At w g o) (hf : Fr S w w') (hn : ¬ g ∈ S) : x.At w' g o :=
  ⟨hf.range h.all hn, hf.range h.hash hn, hf.range h.sig hn, hf.cell h.k hn, hf.cell h.e hn, hf.cell h.r hn, hf.cell h.p hn, hf.cell h.b hn, hf.cell h.m hn⟩
/-- a denial -/
structure Wdn where
  r : Int
  i : Int
  b : Int
  m : Int
def Wdn.cells (x : Wdn) : List Value := [.int .i64 x.r, .int .i64 x.i, .int .i64 x.b, .int .i64 x.m]
def Wdn.val (x : Wdn) : Value := .agg x.cells.toArray
structure Wdn.Ok (x : Wdn) : Prop where
  r : i64In x.r
  i : i64In x.i
  b : i64In x.b
  m : i64In x.m
theorem Wdn.len (x : Wdn) : x.cells.length = 4 := rfl
theorem Wdn.one (x : Wdn) : ∀ v ∈ x.cells, v.oneCell' = true := by
  intro v hv
  simp only [Wdn.cells, List.mem_cons, List.not_mem_nil, or_false] at hv
  rcases hv with rfl | rfl | rfl | rfl <;> rfl
/-- its fields, where it lies from o on -/
structure Wdn.At (w : World) (g o : Nat) (x : Wdn) : Prop where
  all : w.rangeAt g o x.cells
  sig : w.rangeAt g (o + 2) [.int .i64 x.b, .int .i64 x.m]
  r : w.cell? ⟨g, o + 0, none⟩ = some (.int .i64 x.r)
  i : w.cell? ⟨g, o + 1, none⟩ = some (.int .i64 x.i)
  b : w.cell? ⟨g, o + 2, none⟩ = some (.int .i64 x.b)
  m : w.cell? ⟨g, o + 3, none⟩ = some (.int .i64 x.m)
theorem Wdn.at_of {w : World} {g o : Nat} {x : Wdn} (hr : w.rangeAt g o x.cells) : x.At w g o := by
  have c_r : w.cell? ⟨g, o + 0, none⟩ = some (.int .i64 x.r) := hr 0 _ rfl
  have c_i : w.cell? ⟨g, o + 1, none⟩ = some (.int .i64 x.i) := hr 1 _ rfl
  have c_b : w.cell? ⟨g, o + 2, none⟩ = some (.int .i64 x.b) := hr 2 _ rfl
  have c_m : w.cell? ⟨g, o + 3, none⟩ = some (.int .i64 x.m) := hr 3 _ rfl
  have r_sig : w.rangeAt g (o + 2) [.int .i64 x.b, .int .i64 x.m] := by
    intro j v hv
    rcases j with _ | j
    · simp at hv; subst hv; exact c_b
    rcases j with _ | j
    · simp at hv; subst hv; exact c_m
    · simp at hv
  exact ⟨hr, r_sig, c_r, c_i, c_b, c_m⟩
theorem Wdn.At.keep {w w' : World} {g o : Nat} {x : Wdn} {S : List Nat} (h : x.At w g o) (hf : Fr S w w') (hn : ¬ g ∈ S) : x.At w' g o :=
  ⟨hf.range h.all hn, hf.range h.sig hn, hf.cell h.r hn, hf.cell h.i hn, hf.cell h.b hn, hf.cell h.m hn⟩
end Go.Proofs.Ytfmkegblhpnfcaa
