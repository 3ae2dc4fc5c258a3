/- Package book: the contracts of Len, Right, Sign, Clone. -/
import Derived.Test.YtlkhfhhaallhgaaBook
import Derived.Deep.RegionLaw
import Derived.Lib.SmallJoins
import Derived.Shelf.SlMaps.Clone
namespace Go.Proofs.Ytlkhfhhaallhgaa
set_option maxRecDepth 100000
open Go.RowKit

theorem By.mark (w : World) (g : Nat) (hg : g = w.heap.size) (t : TypeId) (fr : Nat × Nat) (cs : Array Value) (l : List UInt8) (h : cs = (l.map by8).toArray) : By (w.alloc (.cells cs t fr)) (some ⟨g, 0, none⟩) l.length l := by
  subst hg
  exact ⟨rfl, fun _ => ⟨_, rfl, fun j u hu => by
    have hadd : (⟨w.heap.size, 0, none⟩ : Addr).add j = ⟨w.heap.size, j, none⟩ := by unfold Addr.add; split <;> simp_all
    rw [hadd, World.cell?_alloc_mark, h]
    simpa using hu⟩⟩
/-- '[]byte("..")' of a constant -/
theorem conv_const (w : World) (C : Array Value) (n c g : Nat) (hg : g = w.heap.size) :
    (convert 41 41 (.slice (some ⟨g, 0, none⟩) n c)).run Try.prog (w.alloc (.cells C 5)) = .ok (.slice (some ⟨g, 0, none⟩) n c) (w.alloc (.cells C 5 (C.size, C.size + 1))) := by
  subst hg
  exact Lib.run_convert_bytes_const w _ _ C n c Try.underlying41 Try.underlying5

/-- was just this text signed so? -/
def rightB (l : List Ent) (x m : Int) (t : List UInt8) : Bool := decide ((x, t) ∈ l) && (((l.idxOf (x, t) + 1 : Nat) : Int) == m)

theorem look_run {D : DataW Unit} {l : List Ent} {b n : Nat} {w : World} (h2 : w.ownsMap Try.prog 84 (plainElem Try.prog 3) b n D) (h3 : Marks D l) (e : Ent) (he : eok e) :
    ∃ c : Int, (∀ k : Nat, (Instr.lookup 79 (.map (some b)) (kval e) true).run Try.prog (w.drewN k) = .ok (.tuple #[.int .i64 c, .bool (decide (e ∈ l))]) (w.drewN k)) ∧ (e ∈ l → c = (l.idxOf e + 1 : Nat)) := by
  have hall : ∀ k : Nat, ∃ c : Int, (Instr.lookup 79 (.map (some b)) (kval e) true).run Try.prog (w.drewN k) = .ok (.tuple #[.int .i64 c, .bool (decide (e ∈ l))]) (w.drewN k) ∧ D.atKey (klit e) (.lit (.int .i64 0)) = .lit (.int .i64 c) := by
    intro k
    have h2' : (w.drewN k).ownsMap Try.prog 84 (plainElem Try.prog 3) b n D := h2
    obtain ⟨v, ps, hrun, hv⟩ := h2'.look_ok keyLawK Try.underlying79 (zeroK (w.drewN k)) (plainElem_int Try.underlying3 (by decide)) (key_mk e he)
    obtain ⟨c, rfl, hc, hwc⟩ := plainElem_int_inv Try.underlying3 hv
    exact ⟨c, by rw [hrun, h3.has e he], congrArg Prod.fst hc⟩
  obtain ⟨c, _, hc⟩ := hall 0
  refine ⟨c, fun k => ?_, fun hm => ?_⟩
  · obtain ⟨c', h, hc'⟩ := hall k
    rw [hc] at hc'
    simp at hc'
    rw [hc']
    exact h
  · rw [h3.mark e hm] at hc
    simp at hc
    exact hc.symm

set_option maxRecDepth 100000 in
set_option maxHeartbeats 1000000 in
theorem right_any (w : World) (S : List Nat) (g : Nat) (l : List Ent) (h : Bok w S g l) (x m : Int) (hx : (Lit.int .i64 x).wf = true) (A : Option Addr) (n c : Nat) (t : List UInt8) (hy : By w A n t) (hn : n ≤ maxLen) :
    Calls Try.prog 44 #[.pointer (some ⟨g, 0, none⟩), .agg #[.int .i64 x, .int .i64 m], .slice A n c] w fun e w' => e = .returned (.bool (rightB l x m t)) ∧ Fr [] w w' := by
  have he : eok (x, t) := ⟨hx, by rw [hy.1]; exact hn⟩
  have HE := Lib.hid he
  clear he hx hn
  have HB := Lib.hid h
  have HY := Lib.hid hy
  clear h hy
  go_enter Try.func44, Try.ntmps44
  go_wp2
  have hfa : Fr [] w (w.alloc (Obj.cells #[.int .i64 x, .int .i64 m] 37)) := (Fr.refl [] w).alloc _
  have hbx : Blk (w.alloc (Obj.cells #[.int .i64 x, .int .i64 m] 37)) w.heap.size 37 #[.int .i64 x, .int .i64 m] := Blk.new _ _ _
  have HB1 := Lib.hid (HB.out.keep hfa (by simp))
  have HY1 := Lib.hid (HY.out.keep hfa (by simp))
  have HFA := Lib.hid hfa
  clear hfa
  generalize w.alloc (Obj.cells #[.int .i64 x, .int .i64 m] 37) = wa at *
  generalize w.heap.size = gh at *
  have hc0 := hbx.cell 0
  have hc1 := hbx.cell 1
  simp at hc0 hc1
  clear hbx
  obtain ⟨b, D, hS, h1, h2, h3⟩ := HB1.out
  have hcb := h1.cell 0
  simp at hcb
  have hconv := fun k : Nat => conv_text A n c t (wa.drewN k) (HY1.out.drewN k)
  obtain ⟨cc, hlook, hm⟩ := look_run h2 h3 (x, t) HE.out
  simp only [kval] at hlook
  have HM := Lib.hid hm
  have HH3 := Lib.hid h3
  have HH2 := Lib.hid h2
  have HH1 := Lib.hid h1
  have HHS := Lib.hid hS
  clear hm h3 h2 h1 hS
  by_cases hmem : (x, t) ∈ l
  · have hcc := HM.out hmem
    rw [decide_eq_true hmem] at hlook
    by_cases hmm : ((l.idxOf (x, t) + 1 : Nat) : Int) = m
    · have hr : rightB l x m t = true := by unfold rightB; simp [hmem]; omega
      have hcm : (cc == m) = true := by rw [hcc]; simp; omega
      have HR := Lib.hid hr
      clear hr hcc hmm hmem
      go_quiet (fail)
      go_wp2
      go_ret
      exact ⟨by rw [HR.out]; rfl, HFA.out.drewN _⟩
    · have hr : rightB l x m t = false := by unfold rightB; simp [hmem]; omega
      have hcm : (cc == m) = false := by rw [hcc]; simp; omega
      have HR := Lib.hid hr
      clear hr hcc hmm hmem
      go_quiet (fail)
      go_wp2
      go_ret
      exact ⟨by rw [HR.out]; rfl, HFA.out.drewN _⟩
  · rw [decide_eq_false hmem] at hlook
    have hr : rightB l x m t = false := by unfold rightB; simp [hmem]
    have HR := Lib.hid hr
    clear hr hmem
    go_quiet (fail)
    go_wp2
    go_ret
    exact ⟨by rw [HR.out]; rfl, HFA.out.drewN _⟩
end Go.Proofs.Ytlkhfhhaallhgaa
