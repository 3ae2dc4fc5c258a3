/- Package book: the contract of Sign. -/
import Derived.Test.YtlkhfhhaallhgaaBook2
namespace Go.Proofs.Ytlkhfhhaallhgaa
set_option maxRecDepth 100000
open Go.RowKit

/-- the entries once e was signed -/
def sgn (l : List Ent) (e : Ent) : List Ent := if e ∈ l then l else l ++ [e]
def mrk (l : List Ent) (e : Ent) : Int := ((l.idxOf e + 1 : Nat) : Int)

set_option maxRecDepth 100000 in
set_option maxHeartbeats 1000000 in
theorem sign_old (w : World) (S : List Nat) (g : Nat) (l : List Ent) (h : Bok w S g l) (x : Int) (hx : (Lit.int .i64 x).wf = true) (A : Option Addr) (n c : Nat) (t : List UInt8) (hy : By w A n t) (hn : n ≤ maxLen) (hmem : (x, t) ∈ l) :
    Calls Try.prog 20 #[.pointer (some ⟨g, 0, none⟩), .int .i64 x, .slice A n c] w fun e w' => e = .returned (.agg #[.int .i64 x, .int .i64 (mrk l (x, t))]) ∧ Fr [] w w' := by
  have he : eok (x, t) := ⟨hx, by rw [hy.1]; exact hn⟩
  have HE := Lib.hid he
  clear he hx hn
  have HB := Lib.hid h
  have HY := Lib.hid hy
  have hconv := fun k : Nat => conv_text A n c t (w.drewN k) (hy.drewN k)
  have hconv0 := conv_text A n c t (w.alloc (Obj.cells #[.int .i64 0, .int .i64 0] 37)) (hy.keep ((Fr.refl [] w).alloc _) (by simp))
  have HM := Lib.hid hmem
  clear h hy hmem
  go_enter Try.func20, Try.ntmps20
  go_wp2
  have hfa : Fr [] w (w.alloc (Obj.cells #[.int .i64 0, .int .i64 0] 37)) := (Fr.refl [] w).alloc _
  have hba : Blk (w.alloc (Obj.cells #[.int .i64 0, .int .i64 0] 37)) w.heap.size 37 #[.int .i64 0, .int .i64 0] := Blk.new _ _ _
  have hsz : (w.alloc (Obj.cells #[.int .i64 0, .int .i64 0] 37)).heap.size = w.heap.size + 1 := by simp
  rw [← hsz]
  have hlt : w.heap.size < (w.alloc (Obj.cells #[.int .i64 0, .int .i64 0] 37)).heap.size := by omega
  clear hsz hconv0
  generalize w.alloc (Obj.cells #[.int .i64 0, .int .i64 0] 37) = wa at *
  have hfb : Fr [] w (wa.alloc (Obj.cells #[.int .i64 x, .string ⟨t.toArray⟩] 84)) := hfa.alloc _
  have hbb := hba.keep ((Fr.refl [] wa).alloc (Obj.cells #[.int .i64 x, .string ⟨t.toArray⟩] 84)) (by simp)
  have hbk : Blk (wa.alloc (Obj.cells #[.int .i64 x, .string ⟨t.toArray⟩] 84)) wa.heap.size 84 #[.int .i64 x, .string ⟨t.toArray⟩] := Blk.new _ _ _
  clear hfa hba
  generalize wa.alloc (Obj.cells #[.int .i64 x, .string ⟨t.toArray⟩] 84) = wb at *
  generalize wa.heap.size = gk at *
  have HB1 := Lib.hid (HB.out.keep hfb (by simp))
  have HG0 := Lib.hid (show ¬ g = w.heap.size by have := HB.out.lt g HB.out.mem; omega)
  have HFIN := Lib.hid (show ∀ w', Fr [w.heap.size] wb w' → Fr [] w w' from fun w' h => hfb.trans h (by simp))
  generalize w.heap.size = gs at *
  have hk0 := hbk.cell 0
  have hk1 := hbk.cell 1
  have hs0 := hbb.cell 0
  have hs1 := hbb.cell 1
  have hz0 := hbb.frozen 0
  have hz1 := hbb.frozen 1
  simp at hk0 hk1 hs0 hs1
  have HBB := Lib.hid hbb
  clear hbk hbb
  obtain ⟨b, D, hS, h1, h2, h3⟩ := HB1.out
  have hcb := h1.cell 0
  simp at hcb
  obtain ⟨cc, hlook, hm⟩ := look_run h2 h3 (x, t) HE.out
  simp only [kval] at hlook
  have hcc := hm HM.out
  rw [decide_eq_true HM.out] at hlook
  have HCC := Lib.hid hcc
  have HFB := Lib.hid hfb
  have HLT := Lib.hid hlt
  clear hm h3 h2 h1 hS hcc hfb hlt hconv
  go_quiet (fail)
  go_wp2
  have hbf := ((HBB.out.drewN nq).set 0 (.int .i64 x)).set 1 (.int .i64 cc)
  have hff : Fr [] w _ := HFIN.out _ ((((Fr.refl [gs] wb).drewN nq).setCell ⟨gs, 0, none⟩ (by simp) (.int .i64 x)).setCell ⟨gs, 1, none⟩ (by simp) (.int .i64 cc))
  generalize ((wb.drewN nq).setCell ⟨gs, 0, none⟩ (.int .i64 x)).setCell ⟨gs, 1, none⟩ (.int .i64 cc) = wf at *
  have hf0 := hbf.cell 0
  have hf1 := hbf.cell 1
  simp at hf0 hf1
  refine bodyPost_ret (v := .agg #[.int .i64 x, .int .i64 cc]) (by simp [results, Try.results20, go_sem, hf0, hf1]) rfl ⟨by rw [HCC.out]; rfl, hff⟩

set_option maxRecDepth 100000 in
set_option maxHeartbeats 1000000 in
theorem sign_new (w : World) (S : List Nat) (g : Nat) (l : List Ent) (h : Bok w S g l) (x : Int) (hx : (Lit.int .i64 x).wf = true) (A : Option Addr) (n c : Nat) (t : List UInt8) (hy : By w A n t) (hn : n ≤ maxLen) (hmem : ¬ (x, t) ∈ l) (hl : l.length < 1099511627776) :
    Calls Try.prog 20 #[.pointer (some ⟨g, 0, none⟩), .int .i64 x, .slice A n c] w fun e w' => e = .returned (.agg #[.int .i64 x, .int .i64 (l.length + 1 : Nat)]) ∧ Bok w' S g (l ++ [(x, t)]) ∧ Fr S w w' := by
  have he : eok (x, t) := ⟨hx, by rw [hy.1]; exact hn⟩
  have HE := Lib.hid he
  clear he hx hn
  have HB := Lib.hid h
  have HY := Lib.hid hy
  have hconv := fun k : Nat => conv_text A n c t (w.drewN k) (hy.drewN k)
  have hconv0 := conv_text A n c t (w.alloc (Obj.cells #[.int .i64 0, .int .i64 0] 37)) (hy.keep ((Fr.refl [] w).alloc _) (by simp))
  have HM := Lib.hid hmem
  have HL := Lib.hid hl
  clear h hy hmem hl
  go_enter Try.func20, Try.ntmps20
  go_wp2
  have hfa : Fr [] w (w.alloc (Obj.cells #[.int .i64 0, .int .i64 0] 37)) := (Fr.refl [] w).alloc _
  have hba : Blk (w.alloc (Obj.cells #[.int .i64 0, .int .i64 0] 37)) w.heap.size 37 #[.int .i64 0, .int .i64 0] := Blk.new _ _ _
  have hsz : (w.alloc (Obj.cells #[.int .i64 0, .int .i64 0] 37)).heap.size = w.heap.size + 1 := by simp
  rw [← hsz]
  have hlt : w.heap.size < (w.alloc (Obj.cells #[.int .i64 0, .int .i64 0] 37)).heap.size := by omega
  clear hsz hconv0
  generalize w.alloc (Obj.cells #[.int .i64 0, .int .i64 0] 37) = wa at *
  have hfb : Fr [] w (wa.alloc (Obj.cells #[.int .i64 x, .string ⟨t.toArray⟩] 84)) := hfa.alloc _
  have hbb := hba.keep ((Fr.refl [] wa).alloc (Obj.cells #[.int .i64 x, .string ⟨t.toArray⟩] 84)) (by simp)
  have hbk : Blk (wa.alloc (Obj.cells #[.int .i64 x, .string ⟨t.toArray⟩] 84)) wa.heap.size 84 #[.int .i64 x, .string ⟨t.toArray⟩] := Blk.new _ _ _
  clear hfa hba
  generalize wa.alloc (Obj.cells #[.int .i64 x, .string ⟨t.toArray⟩] 84) = wb at *
  generalize wa.heap.size = gk at *
  have HB1 := Lib.hid (HB.out.keep hfb (by simp))
  have HG0 := Lib.hid (show ¬ g = w.heap.size by have := HB.out.lt g HB.out.mem; omega)
  have HFIN := Lib.hid (show ∀ w', Fr (w.heap.size :: S) wb w' → Fr S w w' from fun w' h => (hfb.mono (T := S) (by simp)).trans h (by intro y hy hl; simp at hy; rcases hy with rfl | hy; exact absurd hl (by omega); exact hy))
  have HGS := Lib.hid (show ¬ w.heap.size ∈ S from fun hh => by have := HB.out.lt _ hh; omega)
  generalize w.heap.size = gs at *
  have hk0 := hbk.cell 0
  have hk1 := hbk.cell 1
  have hs0 := hbb.cell 0
  have hs1 := hbb.cell 1
  have hz0 := hbb.frozen 0
  have hz1 := hbb.frozen 1
  simp at hk0 hk1 hs0 hs1
  have HBB := Lib.hid hbb
  clear hbk hbb
  obtain ⟨b, D, hS, h1, h2, h3⟩ := HB1.out
  have hcb := h1.cell 0
  simp at hcb
  obtain ⟨cc, hlook, hm⟩ := look_run h2 h3 (x, t) HE.out
  simp only [kval] at hlook
  rw [decide_eq_false HM.out] at hlook
  have HH3 := Lib.hid h3
  have HH2 := Lib.hid h2
  have HH1 := Lib.hid h1
  have HHS := Lib.hid hS
  have HFB := Lib.hid hfb
  have HLT := Lib.hid hlt
  clear hm h3 h2 h1 hS hfb hlt hconv
  go_quiet (fail)
  have HSZ := Lib.hid HH3.out.size
  have hb1 : Maps.size D < 1099511627776 := by rw [HSZ.out]; exact HL.out
  go_wp2_with (at_len; refine wpList_len_own _ rfl _ 79 rfl 84 3 Try.underlying79 _ b l.length D rfl HH2.out ?_)
  obtain ⟨w1, hrun, hown1, hturn⟩ := (show (wb.drewN (nq + 1)).ownsMap Try.prog 84 (plainElem Try.prog 3) b l.length D from HH2.out).store keyLawK Try.underlying79 (by have := HL.out; simp only [maxLen]; omega) (key_mk (x, t) HE.out)
    (plainElem_int Try.underlying3 (a := (Maps.size D : Int) + 1) (WalkArith.wf_i64 (by omega)))
  simp only [kval] at hrun
  have HOWN := Lib.hid hown1
  have HTURN := Lib.hid hturn
  clear hown1 hturn
  go_region
  have hbS : b ∈ S := by rw [HHS.out]; simp
  have hbgs : ¬ gs = b := fun e => HGS.out (by rw [e]; exact hbS)
  have hfr1 : Fr [b] wb w1 := ((Fr.refl [b] wb).drewN (nq + 1)).turned HTURN.out (by simp)
  have hbb1 := HBB.out.keep hfr1 (by simpa using hbgs)
  have HFR1 := Lib.hid hfr1
  clear hs0 hs1 hz0 hz1 hk0 hk1 hcb hrun hlook hfr1
  have hs0 := hbb1.cell 0
  have hs1 := hbb1.cell 1
  have hz0 := hbb1.frozen 0
  have hz1 := hbb1.frozen 1
  simp at hs0 hs1
  have HBB1 := Lib.hid hbb1
  clear hbb1
  go_wp2
  have hbf := (HBB1.out.set 0 (.int .i64 x)).set 1 (.int .i64 ((Maps.size D : Int) + 1))
  have hff1 : Fr [gs] w1 ((w1.setCell ⟨gs, 0, none⟩ (.int .i64 x)).setCell ⟨gs, 1, none⟩ (.int .i64 ((Maps.size D : Int) + 1))) := ((Fr.refl [gs] w1).setCell ⟨gs, 0, none⟩ (by simp) (.int .i64 x)).setCell ⟨gs, 1, none⟩ (by simp) (.int .i64 ((Maps.size D : Int) + 1))
  have hff : Fr S w _ := HFIN.out _ ((HFR1.out.mono (T := gs :: S) (by intro y hy _; simp at hy; subst hy; simp [hbS])).trans hff1 (by simp))
  generalize (w1.setCell ⟨gs, 0, none⟩ (.int .i64 x)).setCell ⟨gs, 1, none⟩ (.int .i64 ((Maps.size D : Int) + 1)) = wf at *
  have hf0 := hbf.cell 0
  have hf1 := hbf.cell 1
  simp at hf0 hf1
  have hsn := HH3.out.snoc HE.out HM.out
  refine bodyPost_ret (v := .agg #[.int .i64 x, .int .i64 ((Maps.size D : Int) + 1)]) (by simp [results, Try.results20, go_sem, hf0, hf1]) rfl ⟨by rw [HSZ.out]; rfl, ⟨b, _, HHS.out, (HH1.out.keep HFR1.out ?_).keep hff1 (by simpa using HG0.out), ?_, hsn⟩, hff⟩
  · have hgb : ¬ g = b := by
      rintro rfl
      obtain ⟨es, clock, hb, _⟩ := HH2.out
      have h := HH1.out
      unfold Blk at h
      rw [hb] at h
      cases h
    simpa using hgb
  · have := own_fr HOWN.out hff1 (by simpa using fun e => hbgs e.symm)
    rw [HSZ.out] at this
    simpa using this

theorem mrk_old {l : List Ent} {e : Ent} (h : e ∈ l) : sgn l e = l := if_pos h
theorem mrk_new {l : List Ent} {e : Ent} (h : ¬ e ∈ l) : mrk (l ++ [e]) e = (l.length + 1 : Nat) := by
  unfold mrk
  simp [List.idxOf_append, h]
theorem sign_any (w : World) (S : List Nat) (g : Nat) (l : List Ent) (h : Bok w S g l) (x : Int) (hx : (Lit.int .i64 x).wf = true) (A : Option Addr) (n c : Nat) (t : List UInt8) (hy : By w A n t) (hn : n ≤ maxLen) (hl : l.length < 1099511627776) :
    Calls Try.prog 20 #[.pointer (some ⟨g, 0, none⟩), .int .i64 x, .slice A n c] w fun e w' => e = .returned (.agg #[.int .i64 x, .int .i64 (mrk (sgn l (x, t)) (x, t))]) ∧ Bok w' S g (sgn l (x, t)) ∧ Fr S w w' := by
  by_cases hm : (x, t) ∈ l
  · refine (sign_old w S g l h x hx A n c t hy hn hm).mono fun e w' ⟨he, hf⟩ => ?_
    rw [mrk_old hm]
    exact ⟨he, h.keep hf (by simp), hf.mono (by simp)⟩
  · refine (sign_new w S g l h x hx A n c t hy hn hm hl).mono fun e w' ⟨he, hb, hf⟩ => ?_
    have e1 : sgn l (x, t) = l ++ [(x, t)] := if_neg hm
    rw [e1, mrk_new hm]
    exact ⟨he, hb, hf⟩

theorem rightB_sgn (l : List Ent) (x : Int) (t : List UInt8) : rightB (sgn l (x, t)) x (mrk (sgn l (x, t)) (x, t)) t = true := by
  unfold rightB mrk sgn
  split <;> simp_all

end Go.Proofs.Ytlkhfhhaallhgaa
