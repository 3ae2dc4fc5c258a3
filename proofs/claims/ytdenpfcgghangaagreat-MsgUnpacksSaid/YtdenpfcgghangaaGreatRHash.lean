/- The reader's Hash. -/
import Derived.Test.YtdenpfcgghangaaGreatRd2
import Derived.Deep.RegionLaw
set_option linter.unusedSimpArgs false
set_option linter.unusedVariables false
namespace Go.Proofs.YtdenpfcgghangaaGreat
open Go.RowKit
def took (l : List UInt8) : List UInt8 := if l.length < 32 then [] else l.take 32
def tookL (l : List UInt8) : List UInt8 := if l.length < 32 then [] else l.drop 32
def tookB (l : List UInt8) (bad : Bool) : Bool := if l.length < 32 then true else bad
def hashOf (l : List UInt8) : List UInt8 := took l ++ (List.replicate 32 (0 : UInt8)).drop (took l).length
theorem took_le (l : List UInt8) : (took l).length ≤ 32 := by
 unfold took; split <;> simp <;> omega
theorem take32 (w : World) (g : Nat) (F : List Nat) (l : List UInt8) (bad : Bool) (hr : Rd w g F l bad) (hl : l.length ≤ 1073741824) :
  Calls Tryz.prog 124 #[.pointer (some ⟨g, 0, none⟩), .int .i64 32] w fun e w' =>
   ∃ A c, e = .returned (.slice A (took l).length c) ∧ By w' A (took l).length (took l) ∧ (∀ k ∈ bk A, k ∈ F) ∧ Rd w' g F (tookL l) (tookB l bad) ∧ Fr [g] w w' := by
 rw [show (32 : Int) = ((32 : Nat) : Int) from rfl]
 by_cases h : l.length < 32
 · refine (take_bad w g F l bad hr 32 h).mono ?_
   rintro e w' ⟨rfl, h1, h2⟩
   unfold took tookL tookB
   rw [if_pos h, if_pos h, if_pos h]
   exact ⟨none, 0, rfl, By.nil _ _, by simp [bk], h1, h2⟩
 · refine (take_ok w g F l bad hr hl 32 (by omega)).mono ?_
   rintro e w' ⟨A, c, rfl, h1, h2, h3, h4, h5⟩
   unfold took tookL tookB
   rw [if_neg h, if_neg h, if_neg h, List.length_take, Nat.min_eq_left (by omega)]
   exact ⟨A, c, rfl, h1, fun k hk => (h3 k hk).1, h4, h5⟩
def zero32 : Array Value := ((List.replicate 32 (0 : UInt8)).map by8).toArray
theorem hash_size : (Tryz.prog.info? 25).map (·.size) = some 32 := by kernel_rfl
theorem u8_size : (Tryz.prog.info? 5).map (·.size) = some 1 := by kernel_rfl
set_option maxRecDepth 100000 in
set_option maxHeartbeats 1000000 in
theorem rhash_any (w : World) (g : Nat) (F : List Nat) (l : List UInt8) (bad : Bool) (hr : Rd w g F l bad) (hF : ∀ k ∈ F, k < w.heap.size) (hl : l.length ≤ 1073741824) :
  Calls Tryz.prog 118 #[.pointer (some ⟨g, 0, none⟩)] w fun e w' => e = .returned (.agg ((hashOf l).map by8).toArray) ∧ Rd w' g F (tookL l) (tookB l bad) ∧ Fr [g] w w' := by
 have HR := Lib.hid hr
 have HL := Lib.hid hl
 have HF := Lib.hid hF
 have hgl := hr.lt
 clear hr hl hF
 go_enter Tryz.func118, Tryz.ntmps118
 go_wp2
 change Code.wp _ _ _ _ ((w.alloc (Obj.cells zero32 25)).alloc (Obj.cells zero32 25))
 have hf0 : Fr [] w ((w.alloc (Obj.cells zero32 25)).alloc (Obj.cells zero32 25)) := ((Fr.refl [] w).alloc _).alloc _
 have hbr : Blk ((w.alloc (Obj.cells zero32 25)).alloc (Obj.cells zero32 25)) w.heap.size 25 zero32 := (Blk.new _ _ _).keep ((Fr.refl [] _).alloc _) (by simp)
 have hbv : Blk ((w.alloc (Obj.cells zero32 25)).alloc (Obj.cells zero32 25)) (w.heap.size + 1) 25 zero32 := by
  have := Blk.new (w.alloc (Obj.cells zero32 25)) 25 zero32
  simpa using this
 generalize (w.alloc (Obj.cells zero32 25)).alloc (Obj.cells zero32 25) = wa at *
 have HR0 := Lib.hid (HR.out.keep hf0 (by simp) (by simp))
 have HF0 := Lib.hid hf0
 have HBR := Lib.hid hbr
 have HBV := Lib.hid hbv
 clear hf0 hbr hbv
 have hgv1 : g ≠ w.heap.size := by omega
 have hgv2 : g ≠ w.heap.size + 1 := by omega
 go_region_law (first
  | (go_simp
     go_at_call 124
     refine (take32 _ g F l bad (by exact HR0.out) HL.out).mono ?_
     rintro e w1 ⟨A1, c1, rfl, h1, h2, h3, h4⟩
     have HY1 := Lib.hid h1
     have HA1 := Lib.hid h2
     have HR1 := Lib.hid h3
     have HF1 := Lib.hid h4
     clear h1 h2 h3 h4)
  | (refine step_copy_bytes rfl (.tmp 4) (.tmp 6) 52 52 rfl 5 Tryz.underlying52 u8_size (w.heap.size + 1) 32 32 A1 (took l).length c1 rfl rfl (List.replicate 32 (0 : UInt8)) (took l) 25
      (HBV.out.drew.keep HF1.out (by simp; omega)) HY1.out (took_le l) (by rw [List.length_replicate]; exact took_le l) ?_
     intro w2 hb2 hf2
     have HB2 := Lib.hid hb2
     have HF2 := Lib.hid hf2
     clear hb2 hf2))
 have hlen : ((hashOf l).map by8).toArray.size = 32 := by
  have := took_le l
  simp [hashOf]
  omega
 have hb3 : Blk w2 (w.heap.size + 1) 25 ((hashOf l).map by8).toArray := HB2.out
 have HBR2 := Lib.hid ((HBR.out.drew.keep HF1.out (by simp; omega)).keep HF2.out (by simp))
 have HR2 := Lib.hid (HR1.out.keep HF2.out (by simp; omega) (fun k hk => by have := HF.out k hk; simp; omega))
 have HFA := Lib.hid (((HF0.out.mono (T := [g]) (by simp)).drew.trans HF1.out (fun _ h _ => h)).trans HF2.out (fun x hx hl => by simp at hx; omega))
 clear HB2 HF1 HBR HBV HR0 HF0
 have hone : (((hashOf l).map by8).toArray.all (·.oneCell')) = true := by
  rw [Array.all_eq_true_iff_forall_mem]
  intro u hu
  exact by8_one (hashOf l) u (by simpa using hu)
 have HLEN := Lib.hid hlen
 have HONE := Lib.hid hone
 have HB3 := Lib.hid hb3
 clear hlen hone hb3
 generalize hH : ((hashOf l).map by8).toArray = H at *
 have HH := Lib.hid hH
 clear hH
 go_wp2_with (first
  | (refine wpList_load_row rfl 25 _ rfl (w.heap.size + 1) rfl 25 H _ _ HB3.out Tryz.underlying25 rfl (by rw [hash_size, HLEN.out]) ?_)
  | (refine wpList_store_row rfl 25 _ _ rfl w.heap.size H rfl rfl 25 zero32 HBR2.out (by rw [hash_size, HLEN.out]) (by rw [HLEN.out]; rfl) HONE.out ?_))
 have hgr : Blk (w2.setRow w.heap.size H) w.heap.size 25 H := setRow_blk HBR2.out H
 refine bodyPost_ret (v := .agg H) (results_cell_row Tryz.results118 _ _ w.heap.size 25 H _ _ rfl hgr Tryz.underlying25 rfl (by rw [hash_size, HLEN.out])) rfl ⟨?_, ?_, ?_⟩
 · rw [HH.out]
 · exact HR2.out.keep (setRow_fr w2 w.heap.size H) (by simp; omega) (fun k hk => by have := HF.out k hk; simp; omega)
 · exact HFA.out.trans (setRow_fr w2 w.heap.size H) (fun x hx hl => by simp at hx; omega)
end Go.Proofs.YtdenpfcgghangaaGreat
