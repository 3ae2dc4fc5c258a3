/- DiskKeeps: the walk. -/
import Derived.Test.YtjpmiigoglcoaaaDsk2
namespace Go.Proofs.Ytjpmiigoglcoaaa
set_option maxRecDepth 100000
open Go.RowKit

theorem dput_new (w w0 : World) (S : List Nat) (g : Nat) (d : Dsk) (h : Dok w S g d) (hd : DOk d) (B : Option Addr) (n c : Nat) (b : List UInt8) (hy : By w B n b) (hB : ∀ x ∈ bk B, ¬ x = g) (hn : d.row.length + n ≤ 1073741824) (hS : ∀ x ∈ S, w0.heap.size ≤ x) (hs : w0.heap.size ≤ w.heap.size) :
    Calls Try.prog 8 #[.pointer (some ⟨g, 0, none⟩), .slice B n c] w fun e w' => e = .returned (.int .i64 (errB d.passB)) ∧ ∃ S', Dok w' S' g (d.put b) ∧ Fr S w w' ∧ ∀ x ∈ S', w0.heap.size ≤ x := by
  refine (dput_any w S g d h hd B n c b hy hB hn).mono ?_
  rintro e w' ⟨rfl, S', h1, h2, h3⟩
  refine ⟨rfl, S', h1, h2, fun x hx => ?_⟩
  rcases Nat.lt_or_ge x w.heap.size with hl | hl
  · exact hS x (h3 x hx hl)
  · omega

/-- a disk with no Fuse that is not dead -/
def cs (r : List UInt8) (s : Nat) : Dsk := ⟨r, s, false, 0, false⟩
theorem cs_ok {r : List UInt8} {s : Nat} (h : s ≤ r.length) (hr : r.length ≤ 1073741824) : DOk (cs r s) := ⟨h, Nat.zero_le _, hr⟩
theorem cput_any (w w0 : World) (S : List Nat) (g : Nat) (r : List UInt8) (s : Nat) (h : Dok w S g (cs r s)) (hs : s ≤ r.length) (B : Option Addr) (n c : Nat) (b : List UInt8) (hy : By w B n b) (hB : ∀ x ∈ bk B, ¬ x = g) (hn : r.length + n ≤ 1000000) (hS : ∀ x ∈ S, w0.heap.size ≤ x) (hw : w0.heap.size ≤ w.heap.size) :
    Calls Try.prog 8 #[.pointer (some ⟨g, 0, none⟩), .slice B n c] w fun e w' => e = .returned (.int .i64 0) ∧ ∃ S', Dok w' S' g (cs (r ++ b) s) ∧ Fr S w w' ∧ ∀ x ∈ S', w0.heap.size ≤ x :=
  dput_new w w0 S g (cs r s) h (cs_ok hs (by omega)) B n c b hy hB (by show r.length + n ≤ 1073741824; omega) hS hw
theorem csync_any (w : World) (S : List Nat) (g : Nat) (r : List UInt8) (s : Nat) (h : Dok w S g (cs r s)) (hs : s ≤ r.length) (hn : r.length ≤ 1000000) :
    Calls Try.prog 9 #[.pointer (some ⟨g, 0, none⟩)] w fun e w' => e = .returned (.int .i64 0) ∧ Dok w' S g (cs r r.length) ∧ Fr [g] w w' :=
  dsync_any w S g (cs r s) h (cs_ok hs (by omega))
theorem ccut_any (w : World) (S : List Nat) (g : Nat) (r : List UInt8) (s : Nat) (h : Dok w S g (cs r s)) (hs : s ≤ r.length) (hn : r.length ≤ 1000000) (k : Nat) (hk : k ≤ r.length) :
    Calls Try.prog 11 #[.pointer (some ⟨g, 0, none⟩), .int .i64 k] w fun e w' => e = .returned (.int .i64 0) ∧ Dok w' S g (cs (r.take k) (min s k)) ∧ Fr [g] w w' :=
  dcut_any w S g (cs r s) h (cs_ok hs (by omega)) rfl k hk
theorem cread_any (w : World) (S : List Nat) (g : Nat) (r : List UInt8) (s : Nat) (h : Dok w S g (cs r s)) (hs : s ≤ r.length) (hn : r.length ≤ 1000000) :
    Calls Try.prog 13 #[.pointer (some ⟨g, 0, none⟩)] w fun e w' => ∃ A' c', e = .returned (.slice A' r.length c') ∧ NewB w w' A' r.length c' r :=
  dread_any w S g (cs r s) h (cs_ok hs (by omega))
theorem csynced_any (w : World) (S : List Nat) (g : Nat) (r : List UInt8) (s : Nat) (h : Dok w S g (cs r s)) : Calls Try.prog 15 #[.pointer (some ⟨g, 0, none⟩)] w fun e w' => e = .returned (.int .i64 s) ∧ w = w' := dsynced_any w S g (cs r s) h
theorem clen_any (w : World) (S : List Nat) (g : Nat) (r : List UInt8) (s : Nat) (h : Dok w S g (cs r s)) : Calls Try.prog 16 #[.pointer (some ⟨g, 0, none⟩)] w fun e w' => e = .returned (.int .i64 r.length) ∧ w = w' := dlen_any w S g (cs r s) h
theorem cdead_any (w : World) (S : List Nat) (g : Nat) (r : List UInt8) (s : Nat) (h : Dok w S g (cs r s)) : Calls Try.prog 20 #[.pointer (some ⟨g, 0, none⟩)] w fun e w' => e = .returned (.bool false) ∧ w = w' := ddead_any w S g (cs r s) h

set_option maxHeartbeats 1000000 in
theorem dwakes_any (w : World) : Calls Try.prog 18 #[] w fun e w' => e = .returned (.bool true) ∧ Fr [] w w' := by
  go_enter Try.func18, Try.ntmps18
  go_wp2_with fail
  refine (dnew_any w).mono ?_
  rintro e w1 ⟨rfl, hd1, hf1⟩
  have HD1 : Hid (Dok w1 [w.heap.size] w.heap.size (cs [] 0)) := Lib.hid hd1
  have HF1 := Lib.hid hf1
  have hlt := hd1.lt _ hd1.mem
  have HLT := Lib.hid hlt
  clear hd1 hf1
  generalize hg : w.heap.size = g at *
  have HG := Lib.hid hg
  clear hg
  go_wp2_with fail
  have hfa : Fr [] w1 (w1.alloc (Obj.cells #[.int .u8 1, .int .u8 2, .int .u8 3] 5)) := (Fr.refl [] w1).alloc _
  have hby : By (w1.alloc (Obj.cells #[.int .u8 1, .int .u8 2, .int .u8 3] 5)) (some ⟨w1.heap.size, 0, none⟩) 3 [1, 2, 3] := By.blk [1, 2, 3] (Blk.new _ _ _) rfl
  have HSA : Hid (w1.heap.size ≤ (w1.alloc (Obj.cells #[.int .u8 1, .int .u8 2, .int .u8 3] 5)).heap.size) := Lib.hid (by simp)
  have HFA := Lib.hid hfa
  have HBY := Lib.hid hby
  clear hfa hby
  generalize w1.alloc (Obj.cells #[.int .u8 1, .int .u8 2, .int .u8 3] 5) = w2 at *
  generalize w1.heap.size = g1 at *
  refine (cput_any w2 w [g] g [] 0 (HD1.out.keep HFA.out (by simp)) (Nat.zero_le _) _ 3 3 [1, 2, 3] HBY.out (by simp [bk]; omega) (by simp) (by simp [HG.out]) (by have := HFA.out.size; have := HLT.out; have := HG.out; have := HF1.out.size; omega)).mono ?_
  rintro e w3 ⟨rfl, S3, hd3, hf3, hs3⟩
  have HD3 := Lib.hid hd3
  have HF3 := Lib.hid hf3
  have HS3 := Lib.hid hs3
  clear hd3 hf3 hs3
  go_wp2_with fail
  refine (dcrash_any w3 S3 g (cs ([] ++ [1, 2, 3]) 0) HD3.out (cs_ok (Nat.zero_le _) (by simp)) 2 (by omega)).mono ?_
  rintro e w4 ⟨rfl, hd4, hf4⟩
  have HD4 : Hid (Dok w4 S3 g (cs [1, 2] 2)) := Lib.hid hd4
  have HF4 := Lib.hid hf4
  clear hd4 hf4
  go_wp2_with fail
  refine (cread_any w4 S3 g [1, 2] 2 HD4.out (by simp) (by simp)).mono ?_
  rintro e w5 ⟨A5, c5, rfl, hN5⟩
  have HN5 := Lib.hid hN5
  have HD5 := Lib.hid (HD4.out.keep hN5.2.1 (by simp))
  clear hN5
  go_wp2_with fail
  refine (same_any A5 (some ⟨w5.heap.size, 0, none⟩) _ 2 _ 2 [1, 2] [1, 2] _ (HN5.out.by.keep ((Fr.refl [] w5).alloc _) (by simp)) (By.blk [1, 2] (Blk.new _ _ _) rfl) (by simp)).mono ?_
  rintro e w6 ⟨rfl, k6, hw6⟩
  have HF6 : Hid (Fr [] w5 w6) := Lib.hid (by rw [hw6]; exact ((Fr.refl [] w5).alloc _).drewN _)
  have HD6 := Lib.hid (HD5.out.keep HF6.out (by simp))
  clear hw6
  simp only [decide_true]
  go_wp2_with fail
  refine (csynced_any w6 S3 g [1, 2] 2 HD6.out).mono ?_
  rintro e w7 ⟨rfl, rfl⟩
  go_wp2
  go_ret
  refine ⟨rfl, ?_⟩
  have h3 : Fr [] w w3 := (HF1.out.and HFA.out (by simp)).trans HF3.out (fun x hx hl => by simp at hx; have := HG.out; omega)
  have h4 : Fr [] w w4 := h3.trans HF4.out (fun x hx hl => by simp at hx; have := HG.out; omega)
  exact (h4.and HN5.out.2.1 (by simp)).and HF6.out (by simp)
end Go.Proofs.Ytjpmiigoglcoaaa
