/- DiskKeeps: the walk. -/
import Derived.Test.YtdakilioikhhbaaDsk2
namespace Go.Proofs.Ytdakilioikhhbaa
set_option maxRecDepth 100000
open Go.RowKit

theorem dput_new (w w0 : World) (S : List Nat) (g : Nat) (d : Dsk) (h : Dok w S g d) (hd : DOk d) (B : Option Addr) (n c : Nat) (b : List UInt8) (hy : By w B n b) (hB : ∀ x ∈ bk B, ¬ x = g) (hn : d.row.length + n ≤ 1073741824) (hS : ∀ x ∈ S, w0.heap.size ≤ x) (hs : w0.heap.size ≤ w.heap.size) :
    Calls Try.prog 17 #[.pointer (some ⟨g, 0, none⟩), .slice B n c] w fun e w' => e = .returned (.int .i64 (errB d.passB)) ∧ ∃ S', Dok w' S' g (d.put b) ∧ Fr S w w' ∧ ∀ x ∈ S', w0.heap.size ≤ x := by
  refine (dput_any w S g d h hd B n c b hy hB hn).mono ?_
  rintro e w' ⟨rfl, S', h1, h2, h3⟩
  refine ⟨rfl, S', h1, h2, fun x hx => ?_⟩
  rcases Nat.lt_or_ge x w.heap.size with hl | hl
  · exact hS x (h3 x hx hl)
  · omega

/-- a disk with no Fuse that is not dead -/
def cs (r : List UInt8) (s : Nat) : Dsk := ⟨r, s, false, 0, false⟩
theorem cs_ok {r : List UInt8} {s : Nat} (h : s ≤ r.length) (hr : r.length ≤ 1073741824) : DOk (cs r s) := ⟨h, Nat.zero_le _, hr⟩
theorem cput_any (w w0 : World) (S : List Nat) (g : Nat) (r : List UInt8) (s : Nat) (h : Dok w S g (cs r s)) (hs : s ≤ r.length) (B : Option Addr) (n c : Nat) (b : List UInt8) (hy : By w B n b) (hB : ∀ x ∈ bk B, ¬ x = g) (hn : r.length + n ≤ 1000000) (hS : ∀ x ∈ S, w0.heap.size ≤ x) (hw : w0.heap.size ≤ w.heap.size) :
    Calls Try.prog 17 #[.pointer (some ⟨g, 0, none⟩), .slice B n c] w fun e w' => e = .returned (.int .i64 0) ∧ ∃ S', Dok w' S' g (cs (r ++ b) s) ∧ Fr S w w' ∧ ∀ x ∈ S', w0.heap.size ≤ x :=
  dput_new w w0 S g (cs r s) h (cs_ok hs (by omega)) B n c b hy hB (by show r.length + n ≤ 1073741824; omega) hS hw
theorem csync_any (w : World) (S : List Nat) (g : Nat) (r : List UInt8) (s : Nat) (h : Dok w S g (cs r s)) (hs : s ≤ r.length) (hn : r.length ≤ 1000000) :
    Calls Try.prog 37 #[.pointer (some ⟨g, 0, none⟩)] w fun e w' => e = .returned (.int .i64 0) ∧ Dok w' S g (cs r r.length) ∧ Fr [g] w w' :=
  dsync_any w S g (cs r s) h (cs_ok hs (by omega))
theorem ccut_any (w : World) (S : List Nat) (g : Nat) (r : List UInt8) (s : Nat) (h : Dok w S g (cs r s)) (hs : s ≤ r.length) (hn : r.length ≤ 1000000) (k : Nat) (hk : k ≤ r.length) :
    Calls Try.prog 50 #[.pointer (some ⟨g, 0, none⟩), .int .i64 k] w fun e w' => e = .returned (.int .i64 0) ∧ Dok w' S g (cs (r.take k) (min s k)) ∧ Fr [g] w w' :=
  dcut_any w S g (cs r s) h (cs_ok hs (by omega)) rfl k hk
theorem cread_any (w : World) (S : List Nat) (g : Nat) (r : List UInt8) (s : Nat) (h : Dok w S g (cs r s)) (hs : s ≤ r.length) (hn : r.length ≤ 1000000) :
    Calls Try.prog 28 #[.pointer (some ⟨g, 0, none⟩)] w fun e w' => ∃ A' c', e = .returned (.slice A' r.length c') ∧ NewB w w' A' r.length c' r :=
  dread_any w S g (cs r s) h (cs_ok hs (by omega))
theorem csynced_any (w : World) (S : List Nat) (g : Nat) (r : List UInt8) (s : Nat) (h : Dok w S g (cs r s)) : Calls Try.prog 29 #[.pointer (some ⟨g, 0, none⟩)] w fun e w' => e = .returned (.int .i64 s) ∧ w = w' := dsynced_any w S g (cs r s) h
theorem clen_any (w : World) (S : List Nat) (g : Nat) (r : List UInt8) (s : Nat) (h : Dok w S g (cs r s)) : Calls Try.prog 31 #[.pointer (some ⟨g, 0, none⟩)] w fun e w' => e = .returned (.int .i64 r.length) ∧ w = w' := dlen_any w S g (cs r s) h
theorem cdead_any (w : World) (S : List Nat) (g : Nat) (r : List UInt8) (s : Nat) (h : Dok w S g (cs r s)) : Calls Try.prog 30 #[.pointer (some ⟨g, 0, none⟩)] w fun e w' => e = .returned (.bool false) ∧ w = w' := ddead_any w S g (cs r s) h

end Go.Proofs.Ytdakilioikhhbaa
