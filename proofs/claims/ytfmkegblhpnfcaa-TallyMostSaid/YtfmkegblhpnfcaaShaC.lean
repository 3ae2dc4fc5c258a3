/- bytes.Compare; package sha: Less. -/
import Derived.Test.YtfmkegblhpnfcaaShaN
import Derived.Lib.BytesEntry
import Derived.Laws.Externs
set_option linter.unusedSimpArgs false
set_option linter.unusedVariables false
namespace Go.Proofs.Ytfmkegblhpnfcaa
set_option maxRecDepth 100000
open Go.RowKit

theorem bytesOf_nat (l : List UInt8) : Lib.bytesOf (l.map fun b => (b.toNat : Int)) = l := by
  unfold Lib.bytesOf
  rw [List.map_map]
  conv => rhs; rw [← List.map_id l]
  apply List.map_congr_left
  intro b _
  simp
theorem run_bytesOf_by {P : Program} {w : World} {A : Option Addr} {n c : Nat} {l : List UInt8} (h : By w A n l) : (Extern.Bytes.bytesOf (.slice A n c)).run P w = .ok ⟨l.toArray⟩ w := by
  rcases A with _ | a
  · obtain ⟨rfl, rfl⟩ := h.none_
    rfl
  · show (Extern.Bytes.loadBytes a n .empty).run P w = _
    have hl := Lib.run_loadBytesX (P := P) w (l.map fun b => (b.toNat : Int)) a .empty (fun j x hj => by
      rw [List.getElem?_map, Option.map_eq_some_iff] at hj
      obtain ⟨b, hb, rfl⟩ := hj
      have hjl := (List.getElem?_eq_some_iff.1 hb).1
      obtain ⟨a', b', e, hb', hc⟩ := h.at (k := j) (by rw [← h.1]; exact hjl)
      injection e with e
      subst e
      rw [hb] at hb'
      injection hb' with hb'
      subst hb'
      exact hc)
    rw [bytesOf_nat, List.length_map, h.1] at hl
    rw [hl]
    simp [ByteArray.empty, ByteArray.emptyWithCapacity]
    rfl
theorem run_compare_by {P : Program} {w : World} {A B : Option Addr} {n c m d : Nat} {l1 l2 : List UInt8} (h1 : By w A n l1) (h2 : By w B m l2) :
    (Extern.BytealgCompare.compare #[.slice A n c, .slice B m d]).run P w = .ok (.int .i64 (Lib.compareBytes l1 l2)) w := by
  change Sem.run P (do pure (goInt (Extern.BytealgCompare.cmp (← Extern.Bytes.bytesOf (.slice A n c)) (← Extern.Bytes.bytesOf (.slice B m d))))) w = _
  simp only [Sem.run_bind, run_bytesOf_by h1, run_bytesOf_by h2, Sem.run_pure, Result.andThen]
  rw [Lib.cmp_eq]
  rfl
theorem compare_any (A B : Option Addr) (n c m d : Nat) (l1 l2 : List UInt8) (w : World) (h1 : By w A n l1) (h2 : By w B m l2) :
    Calls Try.prog 37 #[.slice A n c, .slice B m d] w fun e w' => e = .returned (.int .i64 (Lib.compareBytes l1 l2)) ∧ w' = w := by
  have hrun := run_callFunc_extern (P := Try.prog) Try.func38 (by kernel_rfl) (by kernel_rfl) (by kernel_rfl) (e := Extern.BytealgCompare.compare) (by kernel_rfl) #[.slice A n c, .slice B m d] w
  rw [run_compare_by h1 h2] at hrun
  simp only [Result.andThen] at hrun
  clear h1 h2
  generalize Lib.compareBytes l1 l2 = v at *
  go_enter Try.func37, Try.ntmps37
  go_wp2
  go_ret
  exact ⟨rfl, rfl⟩

/-- the order of hashes -/
def lessB (a b : List UInt8) : Bool := decide (Lib.compareBytes a b < 0)
theorem box_hash {w : World} (a b : List UInt8) (ha : a.length = 32) (hb : b.length = 32) :
    By ((w.alloc (.cells (a.map by8).toArray 30)).alloc (.cells (b.map by8).toArray 30)) (some ⟨w.heap.size, 0, none⟩) 32 a ∧
      By ((w.alloc (.cells (a.map by8).toArray 30)).alloc (.cells (b.map by8).toArray 30)) (some ⟨w.heap.size + 1, 0, none⟩) 32 b := by
  constructor
  · have h := By.blk a (((Blk.new w 30 (a.map by8).toArray)).keep ((Fr.refl [] _).alloc (.cells (b.map by8).toArray 30)) (by simp)) rfl
    rwa [ha] at h
  · have h := By.blk b (Blk.new (w.alloc (.cells (a.map by8).toArray 30)) 30 (b.map by8).toArray) rfl
    rw [hb] at h
    simpa using h
set_option maxHeartbeats 400000 in
theorem less_any (a b : List UInt8) (ha : a.length = 32) (hb : b.length = 32) (w : World) :
    Calls Try.prog 35 #[.agg (a.map by8).toArray, .agg (b.map by8).toArray] w fun e w' => e = .returned (.bool (lessB a b)) ∧ Fr [] w w' := by
  obtain ⟨wb, hwb⟩ : ∃ wb, wb = (w.alloc (.cells (a.map by8).toArray 30)).alloc (.cells (b.map by8).toArray 30) := ⟨_, rfl⟩
  obtain ⟨h1, h2⟩ := box_hash (w := w) a b ha hb
  have hf : Fr [] w wb := by rw [hwb]; exact ((Fr.refl [] w).alloc _).alloc _
  rw [← hwb] at h1 h2
  have H1 := Lib.hid h1
  have H2 := Lib.hid h2
  have HF := Lib.hid hf
  have HL : Hid (lessB a b = decide (Lib.compareBytes a b < 0)) := Lib.hid rfl
  have hc := compare_any (some ⟨w.heap.size, 0, none⟩) (some ⟨w.heap.size + 1, 0, none⟩) 32 32 32 32 a b
  generalize Lib.compareBytes a b = v at *
  generalize lessB a b = r at *
  generalize (a.map by8).toArray = X at *
  generalize (b.map by8).toArray = Y at *
  have HWB := Lib.hid hwb
  have HC := Lib.hid hc
  clear h1 h2 hf hwb hc
  go_enter Try.func35, Try.ntmps35
  go_wp2
  rw [← HWB.out]
  go_quiet ((go_at_call 37; exact Calls.quiet_of_same (HC.out _ (H1.out.drewN _) (H2.out.drewN _))))
  go_wp2
  go_ret
  refine ⟨?_, HF.out.drewN _⟩
  rw [HL.out]
  rfl
end Go.Proofs.Ytfmkegblhpnfcaa
