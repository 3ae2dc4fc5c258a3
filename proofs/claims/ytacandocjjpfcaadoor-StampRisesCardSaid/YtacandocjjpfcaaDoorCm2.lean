/- Package commit: Of, Text. -/
import Derived.Test.YtacandocjjpfcaaDoorCm
import Derived.Test.YtacandocjjpfcaaDoorShaQ
namespace Go.Proofs.YtacandocjjpfcaaDoor
open Go.RowKit
set_option maxRecDepth 100000

def wCommit : List UInt8 := [99, 111, 109, 109, 105, 116]
def wRequest : List UInt8 := [114, 101, 113, 117, 101, 115, 116]
/-- what a commitment is the hash of -/
def ofL (c s : Int) (h b : List UInt8) : List UInt8 := headL wCommit c s ++ h ++ (enc b.length ++ b)
theorem headL_len (t : List UInt8) (ht : t.length ≤ 1000) (c s : Int) (hc : c < 9223372036854775808) (hs : s < 9223372036854775808) : (headL t c s).length ≤ 1030 := by
  have h1 := encI_len c hc
  have h2 := encI_len s hs
  have h3 := enc_ten (m := t.length) (by omega)
  simp only [headL, List.length_append]
  omega
theorem row_name : RowTy Tryd.prog 30 2 := ⟨by kernel_rfl, by kernel_rfl⟩
theorem row_hash : RowTy Tryd.prog 32 32 := ⟨by kernel_rfl, by kernel_rfl⟩
theorem RowTy.of {P : Program} {ty : TypeId} {n m : Nat} (h : RowTy P ty n) (e : m = n) : RowTy P ty m := e ▸ h
theorem by8_all (l : List UInt8) : ((l.map by8).toArray.all (·.oneCell')) = true := by
  rw [Array.all_eq_true_iff_forall_mem]
  intro u hu
  exact by8_one l u (by simpa using hu)
theorem blk_alloc {w : World} {g : Nat} {t t' : TypeId} {cs cs' : Array Value} (h : Blk w g t cs) : Blk (w.alloc (.cells cs' t')) g t cs := h.keep ((Fr.refl [] w).alloc _) (by simp)

set_option maxHeartbeats 1000000 in
theorem of_any (c s : Int) (hc1 : -9223372036854775808 ≤ c) (hc2 : c < 9223372036854775808) (hs1 : -9223372036854775808 ≤ s) (hs2 : s < 9223372036854775808) (h : List UInt8) (hh : h.length = 32)
    (A : Option Addr) (n cap : Nat) (b : List UInt8) (w : World) (hb : By w A n b) (hA : ∀ k ∈ bk A, k < w.heap.size) (hn : n ≤ 1000000) (hK : KW w) :
    Calls Tryd.prog 26 #[.agg #[.int .i64 c, .int .i64 s], .agg (h.map by8).toArray, .slice A n cap] w fun e w' => e = .returned (.agg ((sumL (ofL c s h b)).map by8).toArray) ∧ Fr [] w w' := by
  have hln := hb.1
  obtain ⟨wa, hwa⟩ : ∃ wa, wa = ((w.alloc (Obj.cells #[.int .i64 c, .int .i64 s] 30)).alloc (Obj.cells (h.map by8).toArray 32)).alloc (Obj.cells zeroH 32) := ⟨_, rfl⟩
  have hf0 : Fr [] w wa := by rw [hwa]; exact (((Fr.refl [] w).alloc _).alloc _).alloc _
  have hb1 : Blk wa w.heap.size 30 #[.int .i64 c, .int .i64 s] := by rw [hwa]; exact blk_alloc (blk_alloc (Blk.new _ _ _))
  have hb2 : Blk wa (w.heap.size + 1) 32 (h.map by8).toArray := by
    have := blk_alloc (t' := 32) (cs' := zeroH) (Blk.new (w.alloc (Obj.cells #[.int .i64 c, .int .i64 s] 30)) 32 (h.map by8).toArray)
    rw [hwa]
    simpa using this
  have hb3 : Blk wa (w.heap.size + 2) 32 zeroH := by
    have := Blk.new ((w.alloc (Obj.cells #[.int .i64 c, .int .i64 s] 30)).alloc (Obj.cells (h.map by8).toArray 32)) 32 zeroH
    rw [hwa]
    simpa using this
  have HR1 := Lib.hid hb1.range
  have HR2 := Lib.hid hb2.range
  have HB3 := Lib.hid hb3
  have HF0 := Lib.hid hf0
  have HWA := Lib.hid hwa
  have HB := Lib.hid hb
  have HA := Lib.hid hA
  have HK := Lib.hid hK
  have HLN := Lib.hid hln
  have HH := Lib.hid hh
  clear hb1 hb2 hb3 hf0 hwa hb hA hK hln hh
  go_enter Tryd.func26, Tryd.ntmps26
  go_wp2
  change Code.wp _ _ _ _ (((w.alloc (Obj.cells #[.int .i64 c, .int .i64 s] 30)).alloc (Obj.cells (h.map by8).toArray 32)).alloc (Obj.cells zeroH 32))
  rw [← HWA.out]
  refine wp_region_held_drew (S := Fr [w.heap.size + 2] wa) (by kernel_rfl) (Fr.drew (Fr.refl _ wa)) (fun hHeld => ?_)
  refine row_at (i := 0) rfl (by kernel_rfl) (by rfl) _ _ rfl _ _ rfl _ (fun w1 hw1 => hw1.range (HR1.out) (by first | (simp; done) | exact HNS.out | exact HNW.out | (intro hm; have hlt := HSB.out _ hm; (try dsimp only at hlt); omega))) (row_name) (fun _ _ _ h => h) hHeld ?_
  simp only [Act.put, List.setIfInBounds_toArray, List.set_cons_zero, List.set_cons_succ]
  refine row_at (i := 2) rfl (by kernel_rfl) (by rfl) _ _ rfl _ _ rfl _ (fun w1 hw1 => hw1.range (HR2.out) (by first | (simp; done) | exact HNS.out | exact HNW.out | (intro hm; have hlt := HSB.out _ hm; (try dsimp only at hlt); omega))) (row_hash.of (by rw [List.length_map]; exact HH.out)) (fun _ _ _ h => h) hHeld ?_
  simp only [Act.put, List.setIfInBounds_toArray, List.set_cons_zero, List.set_cons_succ]
  refine run_at (i := 4) (v := ?_) rfl (by kernel_rfl) (by rfl) (fun _ _ _ h => h) hHeld (fun w1 hw1 => ?_) ?_
  rotate_left 1
  · skip
    go_simp
    (try (first | with_reducible rfl | (apply And.intro <;> rfl)))
  simp only [Act.put, List.setIfInBounds_toArray, List.set_cons_zero, List.set_cons_succ]
  refine call_at (i := 1) (f := ?_) (args := ?_) rfl (by kernel_rfl) (by rfl) ?_ ?_
  rotate_left 2
  · go_simp
    (try (first | with_reducible rfl | (apply And.intro <;> rfl)))
  refine (begin_any wCommit (by decide) c s hc1 hc2 hs1 hs2 _).mono ?_
  rintro e w1 ⟨g, rfl, hw1⟩
  have hw1a : NewWr wa w1 g (headL wCommit c s) := hw1.from_ (Fr.drew (Fr.refl _ wa))
  have HW := Lib.hid hw1a
  refine ⟨_, rfl, hHeld.go hw1.fr (by simp), fun hHeld => ?_⟩
  clear hw1 hw1a
  simp only [Act.put, List.setIfInBounds_toArray, List.set_cons_zero, List.set_cons_succ]
  refine call_at (i := 3) (f := ?_) (args := ?_) rfl (by kernel_rfl) (by rfl) ?_ ?_
  rotate_left 2
  · go_simp
    (try (first | with_reducible rfl | (apply And.intro <;> rfl)))
  refine (hash_head wa w1 g _ HW.out h HH.out (by have := headL_len wCommit (by decide) c s hc2 hs2; omega)).mono ?_
  rintro e w2 ⟨rfl, hw2⟩
  have HW2 := Lib.hid hw2
  refine ⟨_, rfl, hw2.fr.mono (by simp), fun hHeld => ?_⟩
  clear hw2 HW
  simp only [Act.put, List.setIfInBounds_toArray, List.set_cons_zero, List.set_cons_succ]
  refine call_at (i := 5) (f := ?_) (args := ?_) rfl (by kernel_rfl) (by rfl) ?_ ?_
  rotate_left 2
  · go_simp
    (try (first | with_reducible rfl | (apply And.intro <;> rfl)))
  refine (row_head wa w2 g _ HW2.out A n cap b (HB.out.keep (HF0.out.and HW2.out.fr (by simp)) (by simp)) (by omega) (fun k hk => by have := HA.out k hk; have := HF0.out.size; omega) (by have := headL_len wCommit (by decide) c s hc2 hs2; have := HH.out; simp only [List.length_append]; omega)).mono ?_
  rintro e w3 ⟨rfl, hw3⟩
  rw [← HLN.out] at hw3
  have HW3 := Lib.hid hw3
  refine ⟨_, rfl, hw3.fr.mono (by simp), fun hHeld => ?_⟩
  clear hw3 HW2
  simp only [Act.put, List.setIfInBounds_toArray, List.set_cons_zero, List.set_cons_succ]
  have hlen : (headL wCommit c s ++ h ++ (enc b.length ++ b)).length ≤ 1073741824 := by
    have h1 := headL_len wCommit (by decide) c s hc2 hs2
    have h2 := HH.out
    have h3 := HLN.out
    have h4 := enc_ten (m := b.length) (by omega)
    simp only [List.length_append]
    omega
  have hX : ofL c s h b = headL wCommit c s ++ h ++ (enc b.length ++ b) := rfl
  generalize headL wCommit c s ++ h ++ (enc b.length ++ b) = X at *
  have HX := Lib.hid hX
  have HLEN := Lib.hid hlen
  clear hlen hX
  refine call_at (i := 6) (f := ?_) (args := ?_) rfl (by kernel_rfl) (by rfl) ?_ ?_
  rotate_left 2
  · go_simp
    (try (first | with_reducible rfl | (apply And.intro <;> rfl)))
  refine (bytes_head wa w3 g _ HW3.out HLEN.out).mono ?_
  rintro e w4 ⟨A4, c4, rfl, hn4⟩
  have HN4 := Lib.hid hn4
  refine ⟨_, rfl, hn4.2.1.mono (by simp), fun hHeld => ?_⟩
  clear hn4 HW3
  simp only [Act.put, List.setIfInBounds_toArray, List.set_cons_zero, List.set_cons_succ]
  have hsum := sum_any A4 _ c4 _ w4 HN4.out.by HN4.out.cap HLEN.out (HK.out.keep (HF0.out.and HN4.out.2.1 (by simp)) (by simp))
  have hsl : ((sumL X).map by8).toArray.size = 32 := by simp [sumL_len]
  have hone := by8_all (sumL X)
  have hH : ((sumL (ofL c s h b)).map by8).toArray = ((sumL X).map by8).toArray := by rw [HX.out]
  generalize ((sumL X).map by8).toArray = H at *
  have HH2 := Lib.hid hH
  have HSUM := Lib.hid hsum
  have HSL := Lib.hid hsl
  have HONE := Lib.hid hone
  clear hsum hsl hone hH
  refine call_at (i := 7) (f := ?_) (args := ?_) rfl (by kernel_rfl) (by rfl) ?_ ?_
  rotate_left 2
  · go_simp
    (try (first | with_reducible rfl | (apply And.intro <;> rfl)))
  refine HSUM.out.mono ?_
  rintro e w5 ⟨rfl, hf5⟩
  refine ⟨_, rfl, hHeld.go hf5 (by simp), fun hHeld => ?_⟩
  simp only [Act.put, List.setIfInBounds_toArray, List.set_cons_zero, List.set_cons_succ]
  have HB5 := Lib.hid (HB3.out.keep (HN4.out.2.1.and hf5 (by simp)) (by simp))
  have HF5 := Lib.hid (HF0.out.and (HN4.out.2.1.and hf5 (by simp)) (by simp))
  clear hf5 HN4 HSUM
  refine step_at (i := 8) rfl (by kernel_rfl) (by rfl) (fun K hK => ?_)
  refine wp_store_blk 32 _ _ rfl (w.heap.size + 2) H rfl rfl 32 zeroH HB5.out (by rw [hash_sizeS, HSL.out]) (by rw [HSL.out, zeroH_size]) HONE.out ?_
  intro w6 hb6 hf6
  refine hK.out _ _ (hHeld.trans hf6 (fun x hx _ => hx)) (fun hHeld => ?_)
  clear hK K
  simp only [Act.put, List.setIfInBounds_toArray, List.set_cons_zero, List.set_cons_succ]
  have HB6 := Lib.hid hb6
  have HF6 := Lib.hid (HF5.out.go hf6 (by simp))
  clear hb6 hf6
  refine wpAnyH_done (by kernel_rfl) ?_ _
  go_wp2
  refine bodyPost_ret (v := .agg H) (results_cell_row Tryd.results26 _ _ (w.heap.size + 2) 32 H _ _ rfl HB6.out Tryd.underlying32 rfl (by rw [hash_sizeS, HSL.out])) rfl ⟨?_, HF6.out⟩
  rw [HH2.out]
end Go.Proofs.YtacandocjjpfcaaDoor
