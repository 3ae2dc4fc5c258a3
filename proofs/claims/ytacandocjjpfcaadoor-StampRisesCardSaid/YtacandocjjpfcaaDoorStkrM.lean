/- Laws of chapter 9: small things that two of them need. -/
import Derived.Test.YtacandocjjpfcaaDoorKF3
namespace Go.Proofs.YtacandocjjpfcaaDoor
set_option maxRecDepth 100000
open Go.RowKit

theorem Act9.in_blk {w : World} {g : Nat} {t : TypeId} {v : Act9} (hb : Blk w g t v.cells.toArray) :
    w.cell? ⟨g, 0, none⟩ = some (.int .i64 v.d) ∧ w.cell? ⟨g, 1, none⟩ = some (.int .i64 v.q) ∧ w.cell? ⟨g, 2, none⟩ = some (.int .u64 (v.t : Int)) ∧ w.cell? ⟨g, 3, none⟩ = some (.int .i64 v.c) ∧ w.cell? ⟨g, 4, none⟩ = some (.int .i64 v.s) ∧ w.cell? ⟨g, 5, none⟩ = some (.slice v.A v.m v.p) :=
  ⟨by rw [hb.cell 0]; rfl, by rw [hb.cell 1]; rfl, by rw [hb.cell 2]; rfl, by rw [hb.cell 3]; rfl, by rw [hb.cell 4]; rfl, by rw [hb.cell 5]; rfl⟩
theorem tick_fl (x : Sst) (n : Nat) : (x.tick n).l = x.l ∧ (x.tick n).la = x.la ∧ (x.tick n).k = x.k ∧ (x.tick n).r = x.r := ⟨rfl, rfl, rfl, rfl⟩
theorem raise_fl (x : Sst) (n : Nat) : (x.raise n).l = x.l ∧ (x.raise n).la = x.la ∧ (x.raise n).k = x.k ∧ (x.raise n).r = x.r ∧ x.fl ≤ (x.raise n).fl ∧ (x.raise n).now = x.now := by
  unfold Sst.raise
  split
  · exact ⟨rfl, rfl, rfl, rfl, Nat.le_refl _, rfl⟩
  · exact ⟨rfl, rfl, rfl, rfl, Nat.le_max_left _ _, rfl⟩
theorem lookup_sameN {l : List (Nam × Wst)} {n : Nam} {v : Wst} (h : l.lookup n = none) : (l ++ [(n, v)]).lookup n = some v := by
  rw [List.lookup_append, h]
  simp [List.lookup]
end Go.Proofs.YtacandocjjpfcaaDoor
