/- Logs on a disk that nothing stops; the example of chapter 8. -/
import Derived.Test.YtdakilioikhhbaaWalR
import Derived.Test.YtdakilioikhhbaaDlw
import Derived.Lib.SlBytesConst
namespace Go.Proofs.Ytdakilioikhhbaa
set_option maxRecDepth 100000
open Go.RowKit

/-- the disk of a log, all synced, that nothing stops -/
def cl (L : List (List UInt8)) : Dsk := cs (rowsB L) (rowsB L).length
theorem cl_ok {L : List (List UInt8)} (h : (rowsB L).length ≤ 1000000000) : DOk (cl L) := cs_ok (Nat.le_refl _) (by omega)
theorem cl_logB (L : List (List UInt8)) (b : List UInt8) : (cl L).logB b = true := rfl
theorem cl_logD (L : List (List UInt8)) (b : List UInt8) : (cl L).logD b = cl (L ++ [b]) := by
  show cs (rowsB L ++ rowB b) (rowsB L ++ rowB b).length = _
  unfold cl
  rw [rowsB_snoc]
theorem cl_settle (L : List (List UInt8)) : (cl L).settleB (rowsB L).length = true ∧ (cl L).settle (rowsB L).length = cl L := by
  have h1 : ¬ (rowsB L).length < (cl L).row.length := by simp [cl, cs]
  have h2 : (cl L).cutIf (rowsB L).length = cl L := by unfold Dsk.cutIf; rw [if_neg h1]
  have h3 : ¬ (cl L).syn < (cl L).row.length := by simp [cl, cs]
  unfold Dsk.settleB Dsk.settle
  rw [h2, if_neg (fun h => h1 h.1), if_neg h3, if_neg (fun h => h1 h.1), if_neg h3]
  exact ⟨rfl, rfl⟩
/-- opened where nothing is torn -/
theorem cl_open (w : World) (SD : List Nat) (gd : Nat) (L : List (List UInt8)) (h : Dok w SD gd (cl L)) (hs : Short L) (hl : (rowsB L).length ≤ 1000000000) :
    Calls Try.prog 9 #[.pointer (some ⟨gd, 0, none⟩)] w fun e w' => ∃ g S, e = .returned (.tuple #[.pointer (some ⟨g, 0, none⟩), .int .i64 0]) ∧ Log w' (SD ++ S) g gd (cl L) L ∧ Fr [gd] w w' ∧ ∀ x ∈ S, w.heap.size ≤ x := by
  refine (wopen_any w SD gd (cl L) h (cl_ok hl) rfl L [] (split_all hs)).mono ?_
  rintro e w' (⟨h1, _⟩ | ⟨_, g, S, h2, h3, h4, h5⟩)
  · rw [(cl_settle L).1] at h1; cases h1
  · rw [(cl_settle L).2] at h3
    exact ⟨g, S, h2, h3, h4, h5⟩
theorem cl_put (w : World) (T : List Nat) (g gd : Nat) (L : List (List UInt8)) (h : Log w T g gd (cl L) L) (B : Option Addr) (n c : Nat) (b : List UInt8) (hy : By w B n b) (hB : ∀ x ∈ bk B, ¬ x ∈ T ∧ x < w.heap.size) (hn : n ≤ 65536) (hl : (rowsB L).length ≤ 1000000000) :
    Calls Try.prog 12 #[.pointer (some ⟨g, 0, none⟩), .slice B n c] w fun e w' => e = .returned (.int .i64 0) ∧ ∃ T', Log w' T' g gd (cl (L ++ [b])) (L ++ [b]) ∧ Fr T w w' ∧ ∀ x ∈ T', x < w.heap.size → x ∈ T := by
  refine (wput_any w T g gd (cl L) L h (cl_ok hl) B n c b hy hB hn hl hl).mono ?_
  rintro e w' ⟨h1, T', h2, h3, h4⟩
  rw [cl_logB] at h1
  rw [cl_logD, show (cl L).logL b L = L ++ [b] by unfold Dsk.logL; rw [cl_logB]; rfl] at h2
  exact ⟨h1, T', h2, h3, h4⟩
theorem Log.dok {w : World} {T : List Nat} {g gd : Nat} {d : Dsk} {L : List (List UInt8)} (h : Log w T g gd d L) : ∃ SD S, T = SD ++ S ∧ Dok w SD gd d := by
  obtain ⟨SD, S, h1, h2, _⟩ := h
  exact ⟨SD, S, h1, h2⟩

set_option maxHeartbeats 1000000 in
theorem wwakes_any (w : World) : Calls Try.prog 16 #[] w fun e w' => e = .returned (.bool true) ∧ Fr [] w w' := by
  go_enter Try.func16, Try.ntmps16
  go_wp2_with fail
  refine (dnew_any w).mono ?_
  rintro e w1 ⟨rfl, hd1, hf1⟩
  have HD1 : Hid (Dok w1 [w.heap.size] w.heap.size (cl [])) := Lib.hid hd1
  have HF1 := Lib.hid hf1
  clear hd1 hf1
  generalize hg : w.heap.size = gd at *
  have HG := Lib.hid hg
  clear hg
  go_wp2_with fail
  refine (cl_open w1 [gd] gd [] HD1.out (by intro b hb; simp at hb) (by simp [rowsB])).mono ?_
  rintro e w2 ⟨g, S, rfl, hl2, hf2, hs2⟩
  have HL2 := Lib.hid hl2
  have HF2 : Hid (Fr [] w w2) := Lib.hid (HF1.out.trans hf2 (by intro x hx hl; simp at hx; have := HG.out; omega))
  have HS2 := Lib.hid hs2
  have HT2 : Hid (∀ x ∈ [gd] ++ S, w.heap.size ≤ x) := Lib.hid (fun x hx => by
    rcases List.mem_append.1 hx with hx | hx
    · simp at hx; have := HG.out; omega
    · have := hs2 x hx; have := HF1.out.size; omega)
  clear hl2 hf2 hs2
  generalize [gd] ++ S = T at *
  have kc := fun (w : World) (C : Array Value) (n c : Nat) => Lib.run_convert_bytes_const (P := Try.prog) w 22 5 C n c Try.underlying22 Try.underlying5
  go_wp2_with fail
  clear kc
  have hfa : Fr [] w2 (w2.alloc (Obj.cells #[.int .u8 97] 5 (1, 2))) := (Fr.refl [] w2).alloc _
  have hby : By (w2.alloc (Obj.cells #[.int .u8 97] 5 (1, 2))) (some ⟨w2.heap.size, 0, none⟩) 1 [97] := ⟨rfl, fun _ => ⟨_, rfl, fun j u hu => by
    rcases j with _ | j
    · simp [by8] at hu
      subst hu
      exact World.cell?_alloc_mark w2 _ _ _ 0
    · simp at hu⟩⟩
  have HLA := Lib.hid (HL2.out.keep hfa (by simp))
  have HLT := Lib.hid HL2.out.lt
  have HFA : Hid (Fr [] w (w2.alloc (Obj.cells #[.int .u8 97] 5 (1, 2)))) := Lib.hid (HF2.out.and hfa (by simp))
  have HBY := Lib.hid hby
  have HSA : Hid (w2.heap.size < (w2.alloc (Obj.cells #[.int .u8 97] 5 (1, 2))).heap.size) := Lib.hid (by simp)
  clear hfa hby
  generalize w2.alloc (Obj.cells #[.int .u8 97] 5 (1, 2)) = w3 at *
  generalize w2.heap.size = gb at *
  refine (cl_put w3 T g gd [] HLA.out _ 1 1 [97] HBY.out (fun x hx => by simp [bk] at hx; subst hx; exact ⟨fun hm => by have := HLT.out _ hm; omega, HSA.out⟩) (by omega) (by simp [rowsB])).mono ?_
  rintro e w4 ⟨rfl, T4, hl4, hf4, ht4⟩
  rw [List.nil_append] at hl4
  obtain ⟨SD4, S4, hT4, hd4⟩ := hl4.dok
  have HD4 := Lib.hid hd4
  have HGD4 := Lib.hid hd4.mem
  have HF4 : Hid (Fr [] w w4) := Lib.hid (HFA.out.trans hf4 (fun x hx hl => by have := HT2.out x hx; omega))
  have HT4 : Hid (∀ x ∈ T4, w.heap.size ≤ x) := Lib.hid (fun x hx => by
    by_cases h : x < w3.heap.size
    · exact HT2.out x (ht4 x hx h)
    · have := HFA.out.size; omega)
  have HTE := Lib.hid hT4
  clear hl4 hf4 ht4 hd4 hT4
  go_wp2_with fail
  refine (cl_open w4 SD4 gd [[97]] HD4.out (by intro b hb; simp at hb; rw [hb]; simp) (by simp [rowsB, rowB, enc_small])).mono ?_
  rintro e w5 ⟨g5, S5, rfl, hl5, hf5, hs5⟩
  have HL5 := Lib.hid hl5
  have HF5 : Hid (Fr [] w w5) := Lib.hid (HF4.out.trans hf5 (fun x hx hl => by simp at hx; subst hx; have := HT4.out x (by rw [HTE.out]; simp [HGD4.out]); omega))
  clear hl5 hf5 hs5
  go_wp2_with fail
  refine (wlen_any w5 _ g5 gd _ _ HL5.out).mono ?_
  rintro e w6 ⟨rfl, rfl⟩
  go_wp2
  go_ret
  exact ⟨rfl, HF5.out⟩
end Go.Proofs.Ytdakilioikhhbaa
