/- Package commit: a commitment as a value; Text, Valid, signedBy. -/
import Derived.Test.YtdenpfcgghangaaGreatCm2
set_option linter.unusedSimpArgs false
set_option linter.unusedVariables false
namespace Go.Proofs.YtdenpfcgghangaaGreat
open Go.RowKit
set_option maxRecDepth 100000
structure Cm where
 c : Int
 s : Int
 h : List UInt8
 n : Int
 b : Int
 m : Int
def Cm.cells (x : Cm) : List Value := .int .i64 x.c :: .int .i64 x.s :: (x.h.map by8 ++ [.int .i64 x.n, .int .i64 x.b, .int .i64 x.m])
def Cm.val (x : Cm) : Value := .agg x.cells.toArray
def i64In (z : Int) : Prop := -9223372036854775808 ≤ z ∧ z < 9223372036854775808
structure Cm.Ok (x : Cm) : Prop where
 c : i64In x.c
 s : i64In x.s
 h : x.h.length = 32
 n : i64In x.n
 b : i64In x.b
 m : i64In x.m
theorem Cm.len {x : Cm} (h : x.h.length = 32) : x.cells.length = 37 := by simp [Cm.cells, h]
theorem Cm.one (x : Cm) : ∀ v ∈ x.cells, v.oneCell' = true := by
 intro v hv
 simp only [Cm.cells, List.mem_cons, List.mem_append, List.not_mem_nil, or_false] at hv
 rcases hv with rfl | rfl | hv | rfl | rfl | rfl
 · rfl
 · rfl
 · exact by8_one x.h v hv
 · rfl
 · rfl
 · rfl
theorem Cm.all (x : Cm) : (x.cells.toArray.all (·.oneCell')) = true := all_oneCell_toArray x.one
structure Cm.At (w : World) (g : Nat) (x : Cm) : Prop where
 all : w.rangeAt g 0 x.cells
 name : w.rangeAt g 0 [.int .i64 x.c, .int .i64 x.s]
 hash : w.rangeAt g 2 (x.h.map by8)
 sig : w.rangeAt g 35 [.int .i64 x.b, .int .i64 x.m]
 c : w.cell? ⟨g, 0, none⟩ = some (.int .i64 x.c)
 s : w.cell? ⟨g, 1, none⟩ = some (.int .i64 x.s)
 n : w.cell? ⟨g, 34, none⟩ = some (.int .i64 x.n)
 b : w.cell? ⟨g, 35, none⟩ = some (.int .i64 x.b)
 m : w.cell? ⟨g, 36, none⟩ = some (.int .i64 x.m)
theorem Cm.at_of {w : World} {g : Nat} {x : Cm} (hr : w.rangeAt g 0 x.cells) (hh : x.h.length = 32) : x.At w g := by
 have hl : (x.h.map by8).length = 32 := by rw [List.length_map]; exact hh
 have e1 : x.cells = [] ++ ([.int .i64 x.c, .int .i64 x.s] ++ (x.h.map by8 ++ [.int .i64 x.n, .int .i64 x.b, .int .i64 x.m])) := rfl
 have e2 : x.cells = [.int .i64 x.c, .int .i64 x.s] ++ (x.h.map by8 ++ [.int .i64 x.n, .int .i64 x.b, .int .i64 x.m]) := rfl
 have e3 : x.cells = ([.int .i64 x.c, .int .i64 x.s] ++ x.h.map by8 ++ [.int .i64 x.n]) ++ ([.int .i64 x.b, .int .i64 x.m] ++ []) := by simp [Cm.cells]
 have h1 : w.rangeAt g 0 [.int .i64 x.c, .int .i64 x.s] := by
  have := hr; rw [e1] at this; simpa using rangeAt_sub this
 have h2 : w.rangeAt g 2 (x.h.map by8) := by
  have := hr; rw [e2] at this; simpa using rangeAt_sub this
 have h3 : w.rangeAt g 35 [.int .i64 x.b, .int .i64 x.m] := by
  have := hr; rw [e3] at this; simpa [hl, hh] using rangeAt_sub this
 have h4 : x.cells[34]? = some (.int .i64 x.n) := by
  rw [e3, List.getElem?_append_left (by simp [hh]), List.getElem?_append_right (by simp [hh])]; simp [hh]
 exact ⟨hr, h1, h2, h3, rangeAt_cell h1 0 rfl rfl, rangeAt_cell h1 1 rfl rfl, rangeAt_cell hr 34 h4 rfl, rangeAt_cell h3 0 rfl rfl, rangeAt_cell h3 1 rfl rfl⟩
theorem Cm.At.keep {w w' : World} {g : Nat} {x : Cm} {S : List Nat} (h : x.At w g) (hf : Fr S w w') (hn : ¬ g ∈ S) : x.At w' g :=
 ⟨hf.range h.all hn, hf.range h.name hn, hf.range h.hash hn, hf.range h.sig hn, hf.cell h.c hn, hf.cell h.s hn, hf.cell h.n hn, hf.cell h.b hn, hf.cell h.m hn⟩
theorem row_commit : RowTy Tryz.prog 29 37 := ⟨by kernel_rfl, by kernel_rfl⟩
theorem row_sig : RowTy Tryz.prog 27 2 := ⟨by kernel_rfl, by kernel_rfl⟩
theorem row_opening : RowTy Tryz.prog 54 34 := ⟨by kernel_rfl, by kernel_rfl⟩
def Cm.text (x : Cm) : List UInt8 := headL wRequest x.c x.s ++ x.h ++ encI x.n
def validB (k : Int) (x : Cm) : Bool := decide (0 ≤ x.c ∧ x.c < k ∧ 1 ≤ x.s ∧ x.s ≤ 1048576 ∧ 0 ≤ x.n ∧ x.n ≤ 256)
end Go.Proofs.YtdenpfcgghangaaGreat
