/- The laid table: what the condition of a row gives the walks; the door's own heap meets it. -/
import Derived.Test.YtjpmiigoglcoaaaDoorShaW
import Derived.Test.YtjpmiigoglcoaaaDoorTie
import Derived.ProofKit
import Derived.LaidMore
import Derived.OpenShut
import Derived.Stop.Joined
import Derived.Test.YtjpmiigoglcoaaaDoorCards
namespace Go.Proofs.YtjpmiigoglcoaaaDoor
set_option maxRecDepth 100000
open Go.ChangeShapes Go.WideShapes Go.ChangeAt Go.RowKit

theorem gK : Tryd.prog.globalNamed "gavel/sha.roundWords" = some 0 := by kernel_rfl
theorem tK : (Tryd.prog.globals[0]?).map (·.type) = some 104 := by kernel_rfl
theorem kay_lits {H : Type} : (Rows.laid_gavel_sha_roundWords : DataW H) = .agg (kay.map fun z => .lit (.int .u32 z)) := rfl
theorem kw_of_laid {W : World} (h : laidMetH Tryd.prog [("gavel/sha.roundWords", Rows.laid_gavel_sha_roundWords)] W) : KW W := by
  rw [MakeChecks.laidMetH_plain _ _ _ (by kernel_rfl)] at h
  obtain ⟨ps, ⟨g0, t0, cs0, f0, p0, q0, hg0, ht0, hv0, hd0, _, _⟩, _⟩ := h
  obtain rfl := Option.some.inj (gK.symm.trans hg0)
  obtain rfl := Option.some.inj (tK.symm.trans ht0)
  obtain ⟨xs, m1, rfl, hx1, hlen, hn3, hel⟩ := DataW.trod_array Tryd.underlying104 hd0
  have c1 : Tryd.prog.cellsOf 86 = 1 := by kernel_rfl
  have c64 : Tryd.prog.cellsOf 104 = 64 := by kernel_rfl
  rw [kay_lits] at hx1
  simp only [Prod.mk.injEq, DataW.agg.injEq] at hx1
  intro i hi
  have hw := World.var?_cell hg0 hv0 i
  have hl64 : cs0.toList.length = 64 := by rw [hlen, c64]
  have h1 := hel i hi
  have hxi : xs[i]? = some (xs[i]'(by omega)) := List.getElem?_eq_getElem _
  rw [hxi, c1, Nat.mul_one] at h1
  have hci : i < cs0.size := by simpa using (show i < cs0.toList.length by omega)
  have h2 : (cs0.toList.drop i).take 1 = [cs0[i]] := by
    rw [List.drop_eq_getElem_cons (by simpa using hci)]
    simp
  rw [h2] at h1
  obtain ⟨k, e1, e2, _⟩ := DataW.trod_int Tryd.underlying86 h1
  injection e1 with e1
  have hk : k = kay.getD i 0 := by
    have h3 : (xs.map (·.1))[i]? = (kay.map fun z => (.lit (.int .u32 z) : DataW _))[i]? := by rw [hx1.1]
    have hkl : i < kay.length := hi
    rw [List.getElem?_map, hxi, List.getElem?_map, List.getElem?_eq_getElem hkl] at h3
    simp only [Option.map_some, Option.some.injEq] at h3
    rw [e2] at h3
    simp only [DataW.lit.injEq, Lit.int.injEq] at h3
    rw [List.getD, List.getElem?_eq_getElem hkl]
    exact h3.2
  rw [hw, Array.getElem?_eq_getElem hci, e1, hk]
theorem door_met (os : Os) (args : Array Value) : laidMetH Tryd.prog [("gavel/sha.roundWords", Rows.laid_gavel_sha_roundWords)] ((World.doorLaid Tryd.prog 14 os).forCall (fun _ _ => 0) ⟨#[], args, []⟩).memory :=
  laidMetH_of_parts3 (fuel := 8) (laidMet_of_run' 8 (by kernel_rfl) (by kernel_rfl)) (by kernel_rfl) (by kernel_rfl)
theorem hash_open {H : Type} {enc : TypeId × Value → H} {W : World} {r : Reach} {base b0 : Nat} {v : Value} {d : DataW H} {p : List MemPlace} {sp : Nat → Bool} {held : Bool} (hv : Value.okWide Tryd.prog W r base 32 v) (h : DataW.Trod enc Tryd.prog W b0 sp held 32 v d p) (hb : b0 = 0) :
    ∃ l : List UInt8, l.length = 32 ∧ v = .agg (l.map by8).toArray := by
  subst hb
  unfold Value.okWide at hv
  rw [Tryd.underlying32] at hv
  obtain ⟨cs, rfl, -⟩ := hv
  obtain ⟨fuel, hf⟩ := h
  obtain ⟨l, hl, e⟩ := hash_of_trod (show DataW.trod enc Tryd.prog W 0 sp held fuel 32 cs.toList = some (d, p) from hf)
  exact ⟨l, hl, by rw [← e]⟩
theorem own : ownKnob Tryd.prog.godebug = none := by kernel_rfl
end Go.Proofs.YtjpmiigoglcoaaaDoor
