/- Package commit: an opening is built of its parts. -/
import Derived.Test.YtbajkdlemgnmkaaDoorCm6
import Derived.Test.YtbajkdlemgnmkaaDoorReg2
namespace Go.Proofs.YtbajkdlemgnmkaaDoor
open Go.RowKit
set_option maxRecDepth 100000
def zeroOp : Array Value := (opnCells 0 none 0 0 (List.replicate 32 0)).toArray
theorem built_op (parts : List (Nat × Value)) : Tryd.prog.built 59 parts = Instr.fill ([(0, 1), (1, 1), (2, 32)].toArray[·]?) zeroOp parts := by kernel_rfl
theorem built_opening (A : Option Addr) (n c : Nat) (h : List UInt8) (hh : h.length = 32) :
    Tryd.prog.built 59 [(1, .slice A n c), (2, .agg (h.map by8).toArray)] = some (opnCells 0 A n c h).toArray := by
  have hz : zeroOp.size = 34 := rfl
  rw [built_op, fill_step _ _ 1 1 1 _ _ rfl rfl (by rw [hz]; omega), fill_step _ _ 2 2 32 _ _ rfl (by simp [Value.cells, hh]) (by simp [splice, zeroOp, opnCells, Value.cells]), Instr.fill]
  congr 2
  simp [splice, zeroOp, opnCells, Value.cells, hh]
theorem built_opening3 (i : Int) (A : Option Addr) (n c : Nat) (h : List UInt8) (hh : h.length = 32) :
    Tryd.prog.built 59 [(0, .int .i64 i), (1, .slice A n c), (2, .agg (h.map by8).toArray)] = some (opnCells i A n c h).toArray := by
  have hz : zeroOp.size = 34 := rfl
  rw [built_op, fill_step _ _ 0 0 1 _ _ rfl rfl (by rw [hz]; omega), fill_step _ _ 1 1 1 _ _ rfl rfl (by simp [splice, zeroOp, opnCells, Value.cells]), fill_step _ _ 2 2 32 _ _ rfl (by simp [Value.cells, hh]) (by simp [splice, zeroOp, opnCells, Value.cells]), Instr.fill]
  congr 2
  simp [splice, zeroOp, opnCells, Value.cells, hh]
theorem built_opening2 (h : List UInt8) (hh : h.length = 32) :
    Tryd.prog.built 59 [(2, .agg (h.map by8).toArray)] = some (opnCells 0 none 0 0 h).toArray := by
  have hz : zeroOp.size = 34 := rfl
  rw [built_op, fill_step _ _ 2 2 32 _ _ rfl (by simp [Value.cells, hh]) (by rw [hz]; omega), Instr.fill]
  congr 2
  simp [splice, zeroOp, opnCells, Value.cells, hh]
end Go.Proofs.YtbajkdlemgnmkaaDoor
