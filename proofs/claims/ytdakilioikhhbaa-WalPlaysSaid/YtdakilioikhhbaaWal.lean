/- Package wal: what whole and settle come to. -/
import Derived.Test.YtdakilioikhhbaaWlp
import Derived.Test.YtdakilioikhhbaaDsk2
namespace Go.Proofs.Ytdakilioikhhbaa
set_option maxRecDepth 100000
open Go.RowKit

set_option maxHeartbeats 1000000 in
theorem whole_any (A : Option Addr) (n c : Nat) (R : List UInt8) (w : World) (hr : By w A n R) (hn : R.length ≤ 1073741824) (L : List (List UInt8)) (T : List UInt8) (hs : Split R L T) :
    Calls Try.prog 32 #[.slice A n c] w fun e w' => e = .returned (.tuple #[.int .i64 L.length, .int .i64 (rowsB L).length]) ∧ Fr [] w w' := by
  have hln := hr.1
  have HS := Lib.hid hs
  have HR := Lib.hid hr
  have HN := Lib.hid hn
  have HRL : Hid ((rowsB L).length + T.length = n) := Lib.hid (by rw [← hln, hs.eq, List.length_append])
  have hcnt : L.length ≤ n := by have := rowsB_count L; have := HRL.out; omega
  have hn2 : (n : Int) ≤ 1073741824 := by omega
  clear hr hn hs hln
  go_enter Try.func32, Try.ntmps32
  go_wp2_with fail
  refine (newReader_b A n c R w HR.out (by omega)).mono ?_
  rintro e w1 ⟨g, rfl, hr1, hf1⟩
  have HR1 : Hid (RB w1 w.heap.size g (rowsB L ++ T) false) := Lib.hid (by rw [← HS.out.eq]; exact hr1)
  have HF1 := Lib.hid hf1
  clear hr1 hf1
  go_wp2_with fail
  go_loopw [2, 3] (fun a b wr => ∃ k : Nat, k ≤ L.length ∧ a = .int .i64 k ∧ b = .int .i64 (rowsB (L.take k)).length ∧ RB wr w.heap.size g (rowsB (L.drop k) ++ T) false ∧ Below w.heap.size w wr) (fun a _ _ => L.length - (intOf a).toNat)
  case atStart => exact ⟨0, by omega, rfl, by simp [rowsB], by simpa using HR1.out, HF1.out.below_all⟩
  case round =>
    obtain ⟨k, hk, rfl, rfl, hrr, hb⟩ := hrel
    have HRR := Lib.hid hrr
    have HB := Lib.hid hb
    have hsp : (rowsB (L.take k)).length + (rowsB (L.drop k) ++ T).length = n := by
      have h1 := congrArg List.length (rowsB_split L k)
      rw [List.length_append] at h1
      rw [List.length_append, ← HRL.out]
      omega
    have HSP := Lib.hid hsp
    clear hrr hb hsp
    by_cases hlt : k < L.length
    · have hat : rowsB (L.drop k) ++ T = rowB L[k] ++ (rowsB (L.drop (k + 1)) ++ T) := by rw [rowsB_at hlt, List.append_assoc]
      have htk : (rowsB (L.take (k + 1))).length = (rowsB (L.take k)).length + (rowB L[k]).length := by
        rw [List.take_add_one, List.getElem?_eq_getElem hlt, Option.toList_some, rowsB_snoc, List.length_append]
      have hsh : L[k].length ≤ 65536 := HS.out.short _ (List.getElem_mem hlt)
      have hpos := rowB_pos L[k]
      rw [hat] at HRR HSP
      obtain ⟨g1, g2, g3⟩ := rw_row hsh (rowsB (L.drop (k + 1)) ++ T)
      have HG := Lib.hid (And.intro g1 (And.intro g2 (g3 false)))
      have HTK := Lib.hid htk
      have hlen : (rowB L[k] ++ (rowsB (L.drop (k + 1)) ++ T)).length ≤ n := by have := HSP.out; omega
      have hpos2 : (0 : Int) < ((rowB L[k] ++ (rowsB (L.drop (k + 1)) ++ T)).length : Int) := by rw [List.length_append]; omega
      have HLEN := Lib.hid hlen
      have hsz : wrap64 ((n : Int) - ((rowsB (L.drop (k + 1)) ++ T).length : Int)) = ((rowsB (L.take (k + 1))).length : Int) := by
        have h1 := HSP.out
        rw [List.length_append] at h1
        unfold wrap64
        rw [htk]
        omega
      clear hat htk hsh hpos g1 g2 g3 hlen
      generalize L[k] = b at *
      generalize hR2 : rowsB (L.drop (k + 1)) ++ T = R2 at *
      have HR2E := Lib.hid hR2
      clear hR2
      generalize hR1 : rowB b ++ R2 = Rk at *
      have HR1E := Lib.hid hR1
      clear hR1
      go_wp2_with fail
      refine (left_b HRR.out).mono ?_
      rintro e w2 ⟨rfl, rfl⟩
      go_wp2_with fail
      refine (rrow_s 65536 (by omega) HRR.out (by have := HLEN.out; omega)).mono ?_
      rw [HG.out.1, HG.out.2.1, HG.out.2.2]
      rintro e w3 ⟨A3, c3, rfl, hy3, hn3, hr3, hf3⟩
      have HR3 := Lib.hid hr3
      have HB3 := Lib.hid (HB.out.trans (HRR.out.below hf3))
      clear hy3 hn3 hr3 hf3
      go_wp2_with fail
      refine (ok_b HR3.out).mono ?_
      rintro e w4 ⟨rfl, rfl⟩
      go_wp2_with fail
      refine (left_b HR3.out).mono ?_
      rintro e w4 ⟨rfl, rfl⟩
      go_wp2
      go_roundw
      case rel => exact ⟨k + 1, by omega, by go_num, by go_num, by rw [HR2E.out]; exact HR3.out, HB3.out⟩
      case measure => simp [intOf]; omega
    · have hkl : k = L.length := by omega
      subst hkl
      rw [List.drop_length, rowsB_nil, List.nil_append] at HRR HSP
      rw [List.take_length] at *
      by_cases hT : T = []
      · subst hT
        have h0 : ¬ (0 : Int) < (([] : List UInt8).length : Int) := by simp
        go_wp2_with fail
        refine (left_b HRR.out).mono ?_
        rintro e w2 ⟨rfl, rfl⟩
        go_wp2
        go_ret2
        exact ⟨rfl, Fr.of_below HB.out (Nat.le_refl _)⟩
      · have hst : rwB T 65536 false = true := HS.out.stop.resolve_left hT
        obtain ⟨g1, g2, g3⟩ := rw_stop hst
        have HG := Lib.hid (And.intro g1 (And.intro g2 (g3 false)))
        have hpos2 : (0 : Int) < (T.length : Int) := by have := List.length_pos_iff.2 hT; omega
        clear hst hT g1 g2 g3
        go_wp2_with fail
        refine (left_b HRR.out).mono ?_
        rintro e w2 ⟨rfl, rfl⟩
        go_wp2_with fail
        refine (rrow_s 65536 (by omega) HRR.out (by have := HSP.out; omega)).mono ?_
        rw [HG.out.1, HG.out.2.1, HG.out.2.2]
        rintro e w3 ⟨A3, c3, rfl, hy3, hn3, hr3, hf3⟩
        have HR3 := Lib.hid hr3
        have HB3 := Lib.hid (HB.out.trans (HRR.out.below hf3))
        clear hy3 hn3 hr3 hf3
        go_wp2_with fail
        refine (ok_b HR3.out).mono ?_
        rintro e w4 ⟨rfl, rfl⟩
        go_wp2
        go_ret2
        exact ⟨rfl, Fr.of_below HB3.out (Nat.le_refl _)⟩

/-- what settling leaves of a disk, and whether it goes through -/
def Dsk.cutIf (d : Dsk) (k : Nat) : Dsk := if k < d.row.length then d.cutD k else d
def Dsk.settle (d : Dsk) (k : Nat) : Dsk := if k < d.row.length ∧ d.passB = false then d.cutD k else if (d.cutIf k).syn < (d.cutIf k).row.length then (d.cutIf k).sync else d.cutIf k
def Dsk.settleB (d : Dsk) (k : Nat) : Bool := if k < d.row.length ∧ d.passB = false then false else if (d.cutIf k).syn < (d.cutIf k).row.length then (d.cutIf k).passB else true
theorem DOk.cutD {d : Dsk} (h : DOk d) {k : Nat} (hk : k ≤ d.row.length) : DOk (d.cutD k) := by
  unfold Dsk.cutD
  split
  · exact h.pass.leave (by rw [passD_row]; exact hk)
  · exact h.pass
theorem DOk.cutIf {d : Dsk} (h : DOk d) {k : Nat} (hk : k ≤ d.row.length) : DOk (d.cutIf k) := by
  unfold Dsk.cutIf
  split
  · exact h.cutD hk
  · exact h
theorem DOk.settle {d : Dsk} (h : DOk d) {k : Nat} (hk : k ≤ d.row.length) : DOk (d.settle k) := by
  unfold Dsk.settle
  split
  · exact h.cutD hk
  · split
    · exact (h.cutIf hk).sync
    · exact h.cutIf hk
theorem sync_row (d : Dsk) : d.sync.row = d.row := by
  unfold Dsk.sync
  split
  · exact passD_row d
  · exact passD_row d
theorem settle_row {d : Dsk} {k : Nat} (hk : k ≤ d.row.length) (h : d.settleB k = true) : (d.settle k).row = d.row.take k := by
  unfold Dsk.settleB at h
  unfold Dsk.settle
  by_cases h1 : k < d.row.length ∧ d.passB = false
  · rw [if_pos h1] at h; cases h
  · rw [if_neg h1]
    have hc : (d.cutIf k).row = d.row.take k := by
      unfold Dsk.cutIf
      split
      · unfold Dsk.cutD
        have hp : d.passB = true := by
          cases hp : d.passB
          · exact absurd ⟨by assumption, hp⟩ h1
          · rfl
        rw [if_pos hp]
        unfold Dsk.leave
        simp only
        rw [passD_row]
      · rw [List.take_of_length_le (by omega)]
    split
    · rw [sync_row, hc]
    · exact hc
set_option maxHeartbeats 1000000 in
theorem settle_any (w : World) (S : List Nat) (g : Nat) (d : Dsk) (h : Dok w S g d) (hd : DOk d) (hdead : d.dead = false) (k : Nat) (hk : k ≤ d.row.length) :
    Calls Try.prog 33 #[.pointer (some ⟨g, 0, none⟩), .int .i64 k] w fun e w' => e = .returned (.int .i64 (errB (d.settleB k))) ∧ Dok w' S g (d.settle k) ∧ Fr [g] w w' := by
  have H := Lib.hid h
  have HD := Lib.hid hd
  have HDD := Lib.hid hdead
  have HK := Lib.hid hk
  clear h hd hdead hk
  go_enter Try.func33, Try.ntmps33
  go_wp2_with fail
  refine (dlen_any w S g d H.out).mono ?_
  rintro e w1 ⟨rfl, rfl⟩
  by_cases hlt : k < d.row.length
  · go_wp2_with fail
    refine (dcut_any w S g d H.out HD.out HDD.out k HK.out).mono ?_
    rintro e w1 ⟨rfl, h1, f1⟩
    have H1 := Lib.hid h1
    have HF1 := Lib.hid f1
    clear h1 f1
    cases hp : d.passB
    · have HB : Hid (d.settleB k = false ∧ d.settle k = d.cutD k) := Lib.hid ⟨by unfold Dsk.settleB; rw [if_pos ⟨hlt, hp⟩], by unfold Dsk.settle; rw [if_pos ⟨hlt, hp⟩]⟩
      rw [show errB false = 9 from rfl]
      clear hp hlt
      go_wp2
      go_ret
      rw [HB.out.1, HB.out.2]
      exact ⟨rfl, H1.out, HF1.out⟩
    · have hcut : d.cutIf k = d.cutD k := by unfold Dsk.cutIf; rw [if_pos hlt]
      have HB : Hid (d.settleB k = (if (d.cutD k).syn < (d.cutD k).row.length then (d.cutD k).passB else true) ∧ d.settle k = if (d.cutD k).syn < (d.cutD k).row.length then (d.cutD k).sync else d.cutD k) := Lib.hid ⟨by unfold Dsk.settleB; rw [if_neg (by simp [hp]), hcut], by unfold Dsk.settle; rw [if_neg (by simp [hp]), hcut]⟩
      have HDC := Lib.hid (HD.out.cutD HK.out)
      rw [show errB true = 0 from rfl]
      clear hp hlt hcut
      generalize d.cutD k = d1 at *
      go_wp2_with fail
      refine (dsynced_any w1 S g d1 H1.out).mono ?_
      rintro e w2 ⟨rfl, rfl⟩
      go_wp2_with fail
      refine (dlen_any w1 S g d1 H1.out).mono ?_
      rintro e w2 ⟨rfl, rfl⟩
      by_cases hs : d1.syn < d1.row.length
      · rw [if_pos hs, if_pos hs] at HB
        go_wp2_with fail
        refine (dsync_any w1 S g d1 H1.out HDC.out).mono ?_
        rintro e w2 ⟨rfl, h2, f2⟩
        have H2 := Lib.hid h2
        have HF2 := Lib.hid (HF1.out.trans f2 (fun x hx _ => hx))
        clear h2 f2
        go_wp2
        go_ret
        rw [HB.out.1, HB.out.2]
        exact ⟨rfl, H2.out, HF2.out⟩
      · rw [if_neg hs, if_neg hs] at HB
        go_wp2
        go_ret
        rw [HB.out.1, HB.out.2]
        exact ⟨rfl, H1.out, HF1.out⟩
  · have hcut : d.cutIf k = d := by unfold Dsk.cutIf; rw [if_neg hlt]
    have HB : Hid (d.settleB k = (if d.syn < d.row.length then d.passB else true) ∧ d.settle k = if d.syn < d.row.length then d.sync else d) := Lib.hid ⟨by unfold Dsk.settleB; rw [if_neg (by simp [hlt]), hcut], by unfold Dsk.settle; rw [if_neg (by simp [hlt]), hcut]⟩
    clear hcut
    go_wp2_with fail
    refine (dsynced_any w S g d H.out).mono ?_
    rintro e w2 ⟨rfl, rfl⟩
    go_wp2_with fail
    refine (dlen_any w S g d H.out).mono ?_
    rintro e w2 ⟨rfl, rfl⟩
    by_cases hs : d.syn < d.row.length
    · rw [if_pos hs, if_pos hs] at HB
      go_wp2_with fail
      refine (dsync_any w S g d H.out HD.out).mono ?_
      rintro e w2 ⟨rfl, h2, f2⟩
      have H2 := Lib.hid h2
      have HF2 := Lib.hid f2
      clear h2 f2
      go_wp2
      go_ret
      rw [HB.out.1, HB.out.2]
      exact ⟨rfl, H2.out, HF2.out⟩
    · rw [if_neg hs, if_neg hs] at HB
      go_wp2
      go_ret
      rw [HB.out.1, HB.out.2]
      exact ⟨rfl, H.out, Fr.refl _ _⟩
end Go.Proofs.Ytdakilioikhhbaa
