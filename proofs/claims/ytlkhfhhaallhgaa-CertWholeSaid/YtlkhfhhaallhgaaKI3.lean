/- Texts that the proof stands on: Package cert: which stamps are right; the document's; configurations' numbers. (written by gen_crs.py) | Package cert: which stamps are right; the document's; configurations' numbers. (written by gen_crs.py) | Package cert: which certificates are right. (written by gen_crr.py) | The document's RightCommit of any number of clients: where no signature was made none is right. (written by gen_crr.py) | Package cert: Right. (written by gen_crr.py) | Package cert: Right, the document's. (written by gen_crr.py) | What CertRaw's walk stands on. | Package commit: the document's example (wakes). | gavellaw10's Books: a commitment in both books. (written by gen_cep.py) | gavellaw10's Books: a stamp in both books. (written by gen_cep.py) | gavellaw10's Books: a certificate, signed in both books. (written by gen_cec.py) | Cells in the middle of a block; gavellaw05's up, niceName, niceSig. (written by gen_nic.py) | CertRight's walk. (written by gen_cex.py) | Ints that came in. | Package part: what its readers take off bytes. (written by gen_rp.py) | Package part: its readers of lists, of certificates, promises, openings, tombstones, batches. (written by gen_rp2.py) | Package part: its readers of a certificate, a promise, an opening, a tombstone, a batch. (written by gen_rp3.py) | Package wire: GetCert, GetPromise, GetBatch: all of it, or the zero value. (written by gen_rp4.py) | gavellaw05's nice: a certificate of numbers from 0 on, not too great. (written by gen_nic2.py) | Package commit: an opening is built of its parts. | Package commit: a commitment is equal to itself. | gavelkeep's Cert, Promise, Batch of parts that say the same, wherever they lie. (written by gen_keq.py) | Package cert: the first stamp of each replica, as a list; put in order. -/
import Derived.Test.YtlkhfhhaallhgaaKI2
import Derived.Deep.DeepCutAuto
import Derived.Deep.CutBlock
import Derived.Test.YtlkhfhhaallhgaaRefW
import Derived.Test.YtlkhfhhaallhgaaShaRr
import Derived.Test.YtlkhfhhaallhgaaRefTx
import Derived.Test.YtlkhfhhaallhgaaOpen
import Derived.Test.YtlkhfhhaallhgaaActs
import Derived.StillTailTactics
import Derived.Test.YtlkhfhhaallhgaaBook3
import Derived.Test.YtlkhfhhaallhgaaRead
import Derived.Test.YtlkhfhhaallhgaaReg2
import Derived.Laws.StructEq
set_option maxRecDepth 100000

namespace Go.Proofs.Ytlkhfhhaallhgaa
open Go.RowKit
set_option maxRecDepth 100000
set_option maxHeartbeats 8000000 in
theorem rstamp_any (F k : Int) (x : Wst) (hx : x.Ok) (w : World) (Sb : List Nat) (gb : Nat) (l : List Ent) (hb : Bok w Sb gb l) :
    Calls Try.prog 29 #[.agg #[.int .i64 F, .int .i64 k], .pointer (some ⟨gb, 0, none⟩), x.val] w fun e w' => e = .returned (.bool (stampB F l x)) ∧ Fr [] w w' := by
  obtain ⟨wa, hwa⟩ : ∃ wa, wa = (w.alloc (Obj.cells #[.int .i64 F, .int .i64 k] 27)).alloc (Obj.cells x.cells.toArray 45) := ⟨_, rfl⟩
  have hf0 : Fr [] w wa := by rw [hwa]; exact ((Fr.refl [] w).alloc _).alloc _
  have hb0 : Blk wa (w.heap.size + 1) 45 x.cells.toArray := by
    have := Blk.new (w.alloc (Obj.cells #[.int .i64 F, .int .i64 k] 27)) 45 x.cells.toArray
    rw [hwa]; simpa using this
  have hb1 : Blk wa w.heap.size 27 #[.int .i64 F, .int .i64 k] := by rw [hwa]; exact blk_alloc (Blk.new _ _ _)
  have HAT := Lib.hid (Wst.at_of (by simpa using hb0.range) hx.h)
  have HCF := Lib.hid hb1.range
  have HF0 := Lib.hid hf0
  have HWA := Lib.hid hwa
  have HX := Lib.hid hx
  have HBK := Lib.hid (hb.keep hf0 (by simp))
  clear hwa hf0 hb0 hb1 hx hb
  have HCL := Lib.hid (Wst.len HX.out.h)
  have HTL := Lib.hid (x.text_len HX.out)
  obtain ⟨r, hr, hr2⟩ : ∃ r, r = stampB F l x ∧ stampB F l x = (hasB F x.r && (decide (1 ≤ x.t) && (decide (x.t < 18446744073709551615) && (decide (x.b = x.r) && rightB l x.b x.m x.text)))) := ⟨_, rfl, rfl⟩
  rw [← hr] at hr2 ⊢
  clear hr
  unfold Wst.val at *
  cases hB0 : hasB F x.r
  case false =>
    have HR : Hid (r = false) := Lib.hid (by rw [hr2, hB0]; rfl)
    clear hr2
    go_enter Try.func29, Try.ntmps29
    go_upto_region 1 with (fail)
    rw [← HWA.out]
    refine wp_region_held_drew (S := Fr [] wa) (by kernel_rfl) (Fr.drew (Fr.refl _ wa)) (fun hHeld => ?_)
    refine row_at (i := 0) rfl (by kernel_rfl) (by rfl) _ _ rfl _ _ rfl _ (fun w1 hw1 => hw1.range (HCF.out) (by first | (simp; done) | exact HNS.out | exact HNW.out | (intro hm; have hlt := HSB.out _ hm; (try dsimp only at hlt); omega))) (row_conf) (fun _ _ _ h => h) hHeld ?_
    simp only [Act.put, List.setIfInBounds_toArray, List.set_cons_zero, List.set_cons_succ]
    refine run_at (i := 1) (v := ?_) rfl (by kernel_rfl) (by rfl) (fun _ _ _ h => h) hHeld (fun w1 hw1 => ?_) ?_
    rotate_left 1
    · skip
      go_simp
      (try (first | with_reducible rfl | (apply And.intro <;> rfl)))
    simp only [Act.put, List.setIfInBounds_toArray, List.set_cons_zero, List.set_cons_succ]
    refine run_at (i := 2) (v := ?_) rfl (by kernel_rfl) (by rfl) (fun _ _ _ h => h) hHeld (fun w1 hw1 => ?_) ?_
    rotate_left 1
    · skip
      have hcw0 := hw1.cell (HAT.out.r) (by first | (simp; done) | exact HNS.out | exact HNW.out | (intro hm; have hlt := HSB.out _ hm; (try dsimp only at hlt); omega))
      go_simp
      (try (first | with_reducible rfl | (apply And.intro <;> rfl)))
    simp only [Act.put, List.setIfInBounds_toArray, List.set_cons_zero, List.set_cons_succ]
    refine call_at (i := 3) (f := ?_) (args := ?_) rfl (by kernel_rfl) (by rfl) ?_ ?_
    rotate_left 2
    · go_simp
      (try (first | with_reducible rfl | (apply And.intro <;> rfl)))
    have hh := rhas_any F k x.r HX.out.r wa.drew
    rw [hB0] at hh
    refine hh.mono ?_
    rintro e w1 ⟨rfl, hf1⟩
    refine ⟨_, rfl, hHeld.and hf1 (by simp), fun hHeld => ?_⟩
    clear hf1 hh
    simp only [Act.put, List.setIfInBounds_toArray, List.set_cons_zero, List.set_cons_succ]
    refine run_at (i := 4) (v := ?_) rfl (by kernel_rfl) (by rfl) (fun _ _ _ h => h) hHeld (fun w1 hw1 => ?_) ?_
    rotate_left 1
    · skip
      go_simp
      (try (first | with_reducible rfl | (apply And.intro <;> rfl)))
    simp only [Act.put, List.setIfInBounds_toArray, List.set_cons_zero, List.set_cons_succ]
    refine skip_at (i := 5) rfl (by kernel_rfl) (fun _ _ _ h => h) (by kernel_rfl) hHeld ?_
    simp only [Act.put, List.setIfInBounds_toArray, List.set_cons_zero, List.set_cons_succ]
    refine skip_at (i := 6) rfl (by kernel_rfl) (fun _ _ _ h => h) (by kernel_rfl) hHeld ?_
    simp only [Act.put, List.setIfInBounds_toArray, List.set_cons_zero, List.set_cons_succ]
    refine skip_at (i := 7) rfl (by kernel_rfl) (fun _ _ _ h => h) (by kernel_rfl) hHeld ?_
    simp only [Act.put, List.setIfInBounds_toArray, List.set_cons_zero, List.set_cons_succ]
    refine run_at (i := 8) (v := ?_) rfl (by kernel_rfl) (by rfl) (fun _ _ _ h => h) hHeld (fun w1 hw1 => ?_) ?_
    rotate_left 1
    · skip
      go_simp
      (try (first | with_reducible rfl | (apply And.intro <;> rfl)))
    simp only [Act.put, List.setIfInBounds_toArray, List.set_cons_zero, List.set_cons_succ]
    refine run_at (i := 9) (v := ?_) rfl (by kernel_rfl) (by rfl) (fun _ _ _ h => h) hHeld (fun w1 hw1 => ?_) ?_
    rotate_left 1
    · skip
      go_simp
      (try (first | with_reducible rfl | (apply And.intro <;> rfl)))
    simp only [Act.put, List.setIfInBounds_toArray, List.set_cons_zero, List.set_cons_succ]
    refine skip_at (i := 10) rfl (by kernel_rfl) (fun _ _ _ h => h) (by kernel_rfl) hHeld ?_
    simp only [Act.put, List.setIfInBounds_toArray, List.set_cons_zero, List.set_cons_succ]
    refine skip_at (i := 11) rfl (by kernel_rfl) (fun _ _ _ h => h) (by kernel_rfl) hHeld ?_
    simp only [Act.put, List.setIfInBounds_toArray, List.set_cons_zero, List.set_cons_succ]
    refine skip_at (i := 12) rfl (by kernel_rfl) (fun _ _ _ h => h) (by kernel_rfl) hHeld ?_
    simp only [Act.put, List.setIfInBounds_toArray, List.set_cons_zero, List.set_cons_succ]
    refine run_at (i := 13) (v := ?_) rfl (by kernel_rfl) (by rfl) (fun _ _ _ h => h) hHeld (fun w1 hw1 => ?_) ?_
    rotate_left 1
    · skip
      go_simp
      (try (first | with_reducible rfl | (apply And.intro <;> rfl)))
    simp only [Act.put, List.setIfInBounds_toArray, List.set_cons_zero, List.set_cons_succ]
    refine run_at (i := 14) (v := ?_) rfl (by kernel_rfl) (by rfl) (fun _ _ _ h => h) hHeld (fun w1 hw1 => ?_) ?_
    rotate_left 1
    · skip
      go_simp
      (try (first | with_reducible rfl | (apply And.intro <;> rfl)))
    simp only [Act.put, List.setIfInBounds_toArray, List.set_cons_zero, List.set_cons_succ]
    refine skip_at (i := 15) rfl (by kernel_rfl) (fun _ _ _ h => h) (by kernel_rfl) hHeld ?_
    simp only [Act.put, List.setIfInBounds_toArray, List.set_cons_zero, List.set_cons_succ]
    refine skip_at (i := 16) rfl (by kernel_rfl) (fun _ _ _ h => h) (by kernel_rfl) hHeld ?_
    simp only [Act.put, List.setIfInBounds_toArray, List.set_cons_zero, List.set_cons_succ]
    refine skip_at (i := 17) rfl (by kernel_rfl) (fun _ _ _ h => h) (by kernel_rfl) hHeld ?_
    simp only [Act.put, List.setIfInBounds_toArray, List.set_cons_zero, List.set_cons_succ]
    refine skip_at (i := 18) rfl (by kernel_rfl) (fun _ _ _ h => h) (by kernel_rfl) hHeld ?_
    simp only [Act.put, List.setIfInBounds_toArray, List.set_cons_zero, List.set_cons_succ]
    refine skip_at (i := 19) rfl (by kernel_rfl) (fun _ _ _ h => h) (by kernel_rfl) hHeld ?_
    simp only [Act.put, List.setIfInBounds_toArray, List.set_cons_zero, List.set_cons_succ]
    refine skip_at (i := 20) rfl (by kernel_rfl) (fun _ _ _ h => h) (by kernel_rfl) hHeld ?_
    simp only [Act.put, List.setIfInBounds_toArray, List.set_cons_zero, List.set_cons_succ]
    refine run_at (i := 21) (v := ?_) rfl (by kernel_rfl) (by rfl) (fun _ _ _ h => h) hHeld (fun w1 hw1 => ?_) ?_
    rotate_left 1
    · skip
      go_simp
      (try (first | with_reducible rfl | (apply And.intro <;> rfl)))
    simp only [Act.put, List.setIfInBounds_toArray, List.set_cons_zero, List.set_cons_succ]
    refine run_at (i := 22) (v := ?_) rfl (by kernel_rfl) (by rfl) (fun _ _ _ h => h) hHeld (fun w1 hw1 => ?_) ?_
    rotate_left 1
    · skip
      go_simp
      (try (first | with_reducible rfl | (apply And.intro <;> rfl)))
    simp only [Act.put, List.setIfInBounds_toArray, List.set_cons_zero, List.set_cons_succ]
    refine skip_at (i := 23) rfl (by kernel_rfl) (fun _ _ _ h => h) (by kernel_rfl) hHeld ?_
    simp only [Act.put, List.setIfInBounds_toArray, List.set_cons_zero, List.set_cons_succ]
    refine skip_at (i := 24) rfl (by kernel_rfl) (fun _ _ _ h => h) (by kernel_rfl) hHeld ?_
    simp only [Act.put, List.setIfInBounds_toArray, List.set_cons_zero, List.set_cons_succ]
    refine skip_at (i := 25) rfl (by kernel_rfl) (fun _ _ _ h => h) (by kernel_rfl) hHeld ?_
    simp only [Act.put, List.setIfInBounds_toArray, List.set_cons_zero, List.set_cons_succ]
    refine skip_at (i := 26) rfl (by kernel_rfl) (fun _ _ _ h => h) (by kernel_rfl) hHeld ?_
    simp only [Act.put, List.setIfInBounds_toArray, List.set_cons_zero, List.set_cons_succ]
    refine skip_at (i := 27) rfl (by kernel_rfl) (fun _ _ _ h => h) (by kernel_rfl) hHeld ?_
    simp only [Act.put, List.setIfInBounds_toArray, List.set_cons_zero, List.set_cons_succ]
    refine skip_at (i := 28) rfl (by kernel_rfl) (fun _ _ _ h => h) (by kernel_rfl) hHeld ?_
    simp only [Act.put, List.setIfInBounds_toArray, List.set_cons_zero, List.set_cons_succ]
    refine run_at (i := 29) (v := ?_) rfl (by kernel_rfl) (by rfl) (fun _ _ _ h => h) hHeld (fun w1 hw1 => ?_) ?_
    rotate_left 1
    · skip
      go_simp
      (try (first | with_reducible rfl | (apply And.intro <;> rfl)))
    simp only [Act.put, List.setIfInBounds_toArray, List.set_cons_zero, List.set_cons_succ]
    refine run_at (i := 30) (v := ?_) rfl (by kernel_rfl) (by rfl) (fun _ _ _ h => h) hHeld (fun w1 hw1 => ?_) ?_
    rotate_left 1
    · skip
      go_simp
      (try (first | with_reducible rfl | (apply And.intro <;> rfl)))
    simp only [Act.put, List.setIfInBounds_toArray, List.set_cons_zero, List.set_cons_succ]
    refine wpAnyH_done (by kernel_rfl) ?_ _
    go_wp2
    go_ret
    exact ⟨by rw [HR.out]; rfl, HF0.out.and hHeld (by simp)⟩
  by_cases h1 : (1 : Int) ≤ (x.t : Int)
  case neg =>
    have h1' : ¬ 1 ≤ x.t := by omega
    have hD1 : decide (1 ≤ x.t) = false := by simp; omega
    have HR : Hid (r = false) := Lib.hid (by rw [hr2, hB0, hD1]; rfl)
    clear hr2
    go_enter Try.func29, Try.ntmps29
    go_upto_region 1 with (fail)
    rw [← HWA.out]
    refine wp_region_held_drew (S := Fr [] wa) (by kernel_rfl) (Fr.drew (Fr.refl _ wa)) (fun hHeld => ?_)
    refine row_at (i := 0) rfl (by kernel_rfl) (by rfl) _ _ rfl _ _ rfl _ (fun w1 hw1 => hw1.range (HCF.out) (by first | (simp; done) | exact HNS.out | exact HNW.out | (intro hm; have hlt := HSB.out _ hm; (try dsimp only at hlt); omega))) (row_conf) (fun _ _ _ h => h) hHeld ?_
    simp only [Act.put, List.setIfInBounds_toArray, List.set_cons_zero, List.set_cons_succ]
    refine run_at (i := 1) (v := ?_) rfl (by kernel_rfl) (by rfl) (fun _ _ _ h => h) hHeld (fun w1 hw1 => ?_) ?_
    rotate_left 1
    · skip
      go_simp
      (try (first | with_reducible rfl | (apply And.intro <;> rfl)))
    simp only [Act.put, List.setIfInBounds_toArray, List.set_cons_zero, List.set_cons_succ]
    refine run_at (i := 2) (v := ?_) rfl (by kernel_rfl) (by rfl) (fun _ _ _ h => h) hHeld (fun w1 hw1 => ?_) ?_
    rotate_left 1
    · skip
      have hcw0 := hw1.cell (HAT.out.r) (by first | (simp; done) | exact HNS.out | exact HNW.out | (intro hm; have hlt := HSB.out _ hm; (try dsimp only at hlt); omega))
      go_simp
      (try (first | with_reducible rfl | (apply And.intro <;> rfl)))
    simp only [Act.put, List.setIfInBounds_toArray, List.set_cons_zero, List.set_cons_succ]
    refine call_at (i := 3) (f := ?_) (args := ?_) rfl (by kernel_rfl) (by rfl) ?_ ?_
    rotate_left 2
    · go_simp
      (try (first | with_reducible rfl | (apply And.intro <;> rfl)))
    have hh := rhas_any F k x.r HX.out.r wa.drew
    rw [hB0] at hh
    refine hh.mono ?_
    rintro e w1 ⟨rfl, hf1⟩
    refine ⟨_, rfl, hHeld.and hf1 (by simp), fun hHeld => ?_⟩
    clear hf1 hh
    simp only [Act.put, List.setIfInBounds_toArray, List.set_cons_zero, List.set_cons_succ]
    refine run_at (i := 4) (v := ?_) rfl (by kernel_rfl) (by rfl) (fun _ _ _ h => h) hHeld (fun w1 hw1 => ?_) ?_
    rotate_left 1
    · skip
      go_simp
      (try (first | with_reducible rfl | (apply And.intro <;> rfl)))
    simp only [Act.put, List.setIfInBounds_toArray, List.set_cons_zero, List.set_cons_succ]
    refine run_at (i := 5) (v := ?_) rfl (by kernel_rfl) (by rfl) (fun _ _ _ h => h) hHeld (fun w1 hw1 => ?_) ?_
    rotate_left 1
    · skip
      go_simp
      (try (first | with_reducible rfl | (apply And.intro <;> rfl)))
    simp only [Act.put, List.setIfInBounds_toArray, List.set_cons_zero, List.set_cons_succ]
    refine run_at (i := 6) (v := ?_) rfl (by kernel_rfl) (by rfl) (fun _ _ _ h => h) hHeld (fun w1 hw1 => ?_) ?_
    rotate_left 1
    · skip
      have hcw0 := hw1.cell (HAT.out.t) (by first | (simp; done) | exact HNS.out | exact HNW.out | (intro hm; have hlt := HSB.out _ hm; (try dsimp only at hlt); omega))
      go_simp
      (try (first | with_reducible rfl | (apply And.intro <;> rfl)))
    simp only [Act.put, List.setIfInBounds_toArray, List.set_cons_zero, List.set_cons_succ]
    refine run_at (i := 7) (v := ?_) rfl (by kernel_rfl) (by rfl) (fun _ _ _ h => h) hHeld (fun w1 hw1 => ?_) ?_
    rotate_left 1
    · skip
      go_simp
      (try (first | with_reducible rfl | (apply And.intro <;> rfl)))
    simp only [Act.put, List.setIfInBounds_toArray, List.set_cons_zero, List.set_cons_succ]
    refine run_at (i := 8) (v := ?_) rfl (by kernel_rfl) (by rfl) (fun _ _ _ h => h) hHeld (fun w1 hw1 => ?_) ?_
    rotate_left 1
    · skip
      go_simp
      (try (first | with_reducible rfl | (apply And.intro <;> rfl)))
    simp only [Act.put, List.setIfInBounds_toArray, List.set_cons_zero, List.set_cons_succ]
    refine run_at (i := 9) (v := ?_) rfl (by kernel_rfl) (by rfl) (fun _ _ _ h => h) hHeld (fun w1 hw1 => ?_) ?_
    rotate_left 1
    · skip
      go_simp
      (try (first | with_reducible rfl | (apply And.intro <;> rfl)))
    simp only [Act.put, List.setIfInBounds_toArray, List.set_cons_zero, List.set_cons_succ]
    refine skip_at (i := 10) rfl (by kernel_rfl) (fun _ _ _ h => h) (by kernel_rfl) hHeld ?_
    simp only [Act.put, List.setIfInBounds_toArray, List.set_cons_zero, List.set_cons_succ]
    refine skip_at (i := 11) rfl (by kernel_rfl) (fun _ _ _ h => h) (by kernel_rfl) hHeld ?_
    simp only [Act.put, List.setIfInBounds_toArray, List.set_cons_zero, List.set_cons_succ]
    refine skip_at (i := 12) rfl (by kernel_rfl) (fun _ _ _ h => h) (by kernel_rfl) hHeld ?_
    simp only [Act.put, List.setIfInBounds_toArray, List.set_cons_zero, List.set_cons_succ]
    refine run_at (i := 13) (v := ?_) rfl (by kernel_rfl) (by rfl) (fun _ _ _ h => h) hHeld (fun w1 hw1 => ?_) ?_
    rotate_left 1
    · skip
      go_simp
      (try (first | with_reducible rfl | (apply And.intro <;> rfl)))
    simp only [Act.put, List.setIfInBounds_toArray, List.set_cons_zero, List.set_cons_succ]
    refine run_at (i := 14) (v := ?_) rfl (by kernel_rfl) (by rfl) (fun _ _ _ h => h) hHeld (fun w1 hw1 => ?_) ?_
    rotate_left 1
    · skip
      go_simp
      (try (first | with_reducible rfl | (apply And.intro <;> rfl)))
    simp only [Act.put, List.setIfInBounds_toArray, List.set_cons_zero, List.set_cons_succ]
    refine skip_at (i := 15) rfl (by kernel_rfl) (fun _ _ _ h => h) (by kernel_rfl) hHeld ?_
    simp only [Act.put, List.setIfInBounds_toArray, List.set_cons_zero, List.set_cons_succ]
    refine skip_at (i := 16) rfl (by kernel_rfl) (fun _ _ _ h => h) (by kernel_rfl) hHeld ?_
    simp only [Act.put, List.setIfInBounds_toArray, List.set_cons_zero, List.set_cons_succ]
    refine skip_at (i := 17) rfl (by kernel_rfl) (fun _ _ _ h => h) (by kernel_rfl) hHeld ?_
    simp only [Act.put, List.setIfInBounds_toArray, List.set_cons_zero, List.set_cons_succ]
    refine skip_at (i := 18) rfl (by kernel_rfl) (fun _ _ _ h => h) (by kernel_rfl) hHeld ?_
    simp only [Act.put, List.setIfInBounds_toArray, List.set_cons_zero, List.set_cons_succ]
    refine skip_at (i := 19) rfl (by kernel_rfl) (fun _ _ _ h => h) (by kernel_rfl) hHeld ?_
    simp only [Act.put, List.setIfInBounds_toArray, List.set_cons_zero, List.set_cons_succ]
    refine skip_at (i := 20) rfl (by kernel_rfl) (fun _ _ _ h => h) (by kernel_rfl) hHeld ?_
    simp only [Act.put, List.setIfInBounds_toArray, List.set_cons_zero, List.set_cons_succ]
    refine run_at (i := 21) (v := ?_) rfl (by kernel_rfl) (by rfl) (fun _ _ _ h => h) hHeld (fun w1 hw1 => ?_) ?_
    rotate_left 1
    · skip
      go_simp
      (try (first | with_reducible rfl | (apply And.intro <;> rfl)))
    simp only [Act.put, List.setIfInBounds_toArray, List.set_cons_zero, List.set_cons_succ]
    refine run_at (i := 22) (v := ?_) rfl (by kernel_rfl) (by rfl) (fun _ _ _ h => h) hHeld (fun w1 hw1 => ?_) ?_
    rotate_left 1
    · skip
      go_simp
      (try (first | with_reducible rfl | (apply And.intro <;> rfl)))
    simp only [Act.put, List.setIfInBounds_toArray, List.set_cons_zero, List.set_cons_succ]
    refine skip_at (i := 23) rfl (by kernel_rfl) (fun _ _ _ h => h) (by kernel_rfl) hHeld ?_
    simp only [Act.put, List.setIfInBounds_toArray, List.set_cons_zero, List.set_cons_succ]
    refine skip_at (i := 24) rfl (by kernel_rfl) (fun _ _ _ h => h) (by kernel_rfl) hHeld ?_
    simp only [Act.put, List.setIfInBounds_toArray, List.set_cons_zero, List.set_cons_succ]
    refine skip_at (i := 25) rfl (by kernel_rfl) (fun _ _ _ h => h) (by kernel_rfl) hHeld ?_
    simp only [Act.put, List.setIfInBounds_toArray, List.set_cons_zero, List.set_cons_succ]
    refine skip_at (i := 26) rfl (by kernel_rfl) (fun _ _ _ h => h) (by kernel_rfl) hHeld ?_
    simp only [Act.put, List.setIfInBounds_toArray, List.set_cons_zero, List.set_cons_succ]
    refine skip_at (i := 27) rfl (by kernel_rfl) (fun _ _ _ h => h) (by kernel_rfl) hHeld ?_
    simp only [Act.put, List.setIfInBounds_toArray, List.set_cons_zero, List.set_cons_succ]
    refine skip_at (i := 28) rfl (by kernel_rfl) (fun _ _ _ h => h) (by kernel_rfl) hHeld ?_
    simp only [Act.put, List.setIfInBounds_toArray, List.set_cons_zero, List.set_cons_succ]
    refine run_at (i := 29) (v := ?_) rfl (by kernel_rfl) (by rfl) (fun _ _ _ h => h) hHeld (fun w1 hw1 => ?_) ?_
    rotate_left 1
    · skip
      go_simp
      (try (first | with_reducible rfl | (apply And.intro <;> rfl)))
    simp only [Act.put, List.setIfInBounds_toArray, List.set_cons_zero, List.set_cons_succ]
    refine run_at (i := 30) (v := ?_) rfl (by kernel_rfl) (by rfl) (fun _ _ _ h => h) hHeld (fun w1 hw1 => ?_) ?_
    rotate_left 1
    · skip
      go_simp
      (try (first | with_reducible rfl | (apply And.intro <;> rfl)))
    simp only [Act.put, List.setIfInBounds_toArray, List.set_cons_zero, List.set_cons_succ]
    refine wpAnyH_done (by kernel_rfl) ?_ _
    go_wp2
    go_ret
    exact ⟨by rw [HR.out]; rfl, HF0.out.and hHeld (by simp)⟩
  have h1' : 1 ≤ x.t := by omega
  have hD1 : decide (1 ≤ x.t) = true := by simp; omega
  by_cases h2 : (x.t : Int) < 18446744073709551615
  case neg =>
    have h2' : ¬ x.t < 18446744073709551615 := by omega
    have hD2 : decide (x.t < 18446744073709551615) = false := by simp; omega
    have HR : Hid (r = false) := Lib.hid (by rw [hr2, hB0, hD1, hD2]; rfl)
    clear hr2
    go_enter Try.func29, Try.ntmps29
    go_upto_region 1 with (fail)
    rw [← HWA.out]
    refine wp_region_held_drew (S := Fr [] wa) (by kernel_rfl) (Fr.drew (Fr.refl _ wa)) (fun hHeld => ?_)
    refine row_at (i := 0) rfl (by kernel_rfl) (by rfl) _ _ rfl _ _ rfl _ (fun w1 hw1 => hw1.range (HCF.out) (by first | (simp; done) | exact HNS.out | exact HNW.out | (intro hm; have hlt := HSB.out _ hm; (try dsimp only at hlt); omega))) (row_conf) (fun _ _ _ h => h) hHeld ?_
    simp only [Act.put, List.setIfInBounds_toArray, List.set_cons_zero, List.set_cons_succ]
    refine run_at (i := 1) (v := ?_) rfl (by kernel_rfl) (by rfl) (fun _ _ _ h => h) hHeld (fun w1 hw1 => ?_) ?_
    rotate_left 1
    · skip
      go_simp
      (try (first | with_reducible rfl | (apply And.intro <;> rfl)))
    simp only [Act.put, List.setIfInBounds_toArray, List.set_cons_zero, List.set_cons_succ]
    refine run_at (i := 2) (v := ?_) rfl (by kernel_rfl) (by rfl) (fun _ _ _ h => h) hHeld (fun w1 hw1 => ?_) ?_
    rotate_left 1
    · skip
      have hcw0 := hw1.cell (HAT.out.r) (by first | (simp; done) | exact HNS.out | exact HNW.out | (intro hm; have hlt := HSB.out _ hm; (try dsimp only at hlt); omega))
      go_simp
      (try (first | with_reducible rfl | (apply And.intro <;> rfl)))
    simp only [Act.put, List.setIfInBounds_toArray, List.set_cons_zero, List.set_cons_succ]
    refine call_at (i := 3) (f := ?_) (args := ?_) rfl (by kernel_rfl) (by rfl) ?_ ?_
    rotate_left 2
    · go_simp
      (try (first | with_reducible rfl | (apply And.intro <;> rfl)))
    have hh := rhas_any F k x.r HX.out.r wa.drew
    rw [hB0] at hh
    refine hh.mono ?_
    rintro e w1 ⟨rfl, hf1⟩
    refine ⟨_, rfl, hHeld.and hf1 (by simp), fun hHeld => ?_⟩
    clear hf1 hh
    simp only [Act.put, List.setIfInBounds_toArray, List.set_cons_zero, List.set_cons_succ]
    refine run_at (i := 4) (v := ?_) rfl (by kernel_rfl) (by rfl) (fun _ _ _ h => h) hHeld (fun w1 hw1 => ?_) ?_
    rotate_left 1
    · skip
      go_simp
      (try (first | with_reducible rfl | (apply And.intro <;> rfl)))
    simp only [Act.put, List.setIfInBounds_toArray, List.set_cons_zero, List.set_cons_succ]
    refine run_at (i := 5) (v := ?_) rfl (by kernel_rfl) (by rfl) (fun _ _ _ h => h) hHeld (fun w1 hw1 => ?_) ?_
    rotate_left 1
    · skip
      go_simp
      (try (first | with_reducible rfl | (apply And.intro <;> rfl)))
    simp only [Act.put, List.setIfInBounds_toArray, List.set_cons_zero, List.set_cons_succ]
    refine run_at (i := 6) (v := ?_) rfl (by kernel_rfl) (by rfl) (fun _ _ _ h => h) hHeld (fun w1 hw1 => ?_) ?_
    rotate_left 1
    · skip
      have hcw0 := hw1.cell (HAT.out.t) (by first | (simp; done) | exact HNS.out | exact HNW.out | (intro hm; have hlt := HSB.out _ hm; (try dsimp only at hlt); omega))
      go_simp
      (try (first | with_reducible rfl | (apply And.intro <;> rfl)))
    simp only [Act.put, List.setIfInBounds_toArray, List.set_cons_zero, List.set_cons_succ]
    refine run_at (i := 7) (v := ?_) rfl (by kernel_rfl) (by rfl) (fun _ _ _ h => h) hHeld (fun w1 hw1 => ?_) ?_
    rotate_left 1
    · skip
      go_simp
      (try (first | with_reducible rfl | (apply And.intro <;> rfl)))
    simp only [Act.put, List.setIfInBounds_toArray, List.set_cons_zero, List.set_cons_succ]
    refine run_at (i := 8) (v := ?_) rfl (by kernel_rfl) (by rfl) (fun _ _ _ h => h) hHeld (fun w1 hw1 => ?_) ?_
    rotate_left 1
    · skip
      go_simp
      (try (first | with_reducible rfl | (apply And.intro <;> rfl)))
    simp only [Act.put, List.setIfInBounds_toArray, List.set_cons_zero, List.set_cons_succ]
    refine run_at (i := 9) (v := ?_) rfl (by kernel_rfl) (by rfl) (fun _ _ _ h => h) hHeld (fun w1 hw1 => ?_) ?_
    rotate_left 1
    · skip
      go_simp
      (try (first | with_reducible rfl | (apply And.intro <;> rfl)))
    simp only [Act.put, List.setIfInBounds_toArray, List.set_cons_zero, List.set_cons_succ]
    refine run_at (i := 10) (v := ?_) rfl (by kernel_rfl) (by rfl) (fun _ _ _ h => h) hHeld (fun w1 hw1 => ?_) ?_
    rotate_left 1
    · skip
      go_simp
      (try (first | with_reducible rfl | (apply And.intro <;> rfl)))
    simp only [Act.put, List.setIfInBounds_toArray, List.set_cons_zero, List.set_cons_succ]
    refine run_at (i := 11) (v := ?_) rfl (by kernel_rfl) (by rfl) (fun _ _ _ h => h) hHeld (fun w1 hw1 => ?_) ?_
    rotate_left 1
    · skip
      have hcw0 := hw1.cell (HAT.out.t) (by first | (simp; done) | exact HNS.out | exact HNW.out | (intro hm; have hlt := HSB.out _ hm; (try dsimp only at hlt); omega))
      go_simp
      (try (first | with_reducible rfl | (apply And.intro <;> rfl)))
    simp only [Act.put, List.setIfInBounds_toArray, List.set_cons_zero, List.set_cons_succ]
    refine run_at (i := 12) (v := ?_) rfl (by kernel_rfl) (by rfl) (fun _ _ _ h => h) hHeld (fun w1 hw1 => ?_) ?_
    rotate_left 1
    · skip
      go_simp
      (try (first | with_reducible rfl | (apply And.intro <;> rfl)))
    simp only [Act.put, List.setIfInBounds_toArray, List.set_cons_zero, List.set_cons_succ]
    refine run_at (i := 13) (v := ?_) rfl (by kernel_rfl) (by rfl) (fun _ _ _ h => h) hHeld (fun w1 hw1 => ?_) ?_
    rotate_left 1
    · skip
      go_simp
      (try (first | with_reducible rfl | (apply And.intro <;> rfl)))
    simp only [Act.put, List.setIfInBounds_toArray, List.set_cons_zero, List.set_cons_succ]
    refine run_at (i := 14) (v := ?_) rfl (by kernel_rfl) (by rfl) (fun _ _ _ h => h) hHeld (fun w1 hw1 => ?_) ?_
    rotate_left 1
    · skip
      go_simp
      (try (first | with_reducible rfl | (apply And.intro <;> rfl)))
    simp only [Act.put, List.setIfInBounds_toArray, List.set_cons_zero, List.set_cons_succ]
    refine skip_at (i := 15) rfl (by kernel_rfl) (fun _ _ _ h => h) (by kernel_rfl) hHeld ?_
    simp only [Act.put, List.setIfInBounds_toArray, List.set_cons_zero, List.set_cons_succ]
    refine skip_at (i := 16) rfl (by kernel_rfl) (fun _ _ _ h => h) (by kernel_rfl) hHeld ?_
    simp only [Act.put, List.setIfInBounds_toArray, List.set_cons_zero, List.set_cons_succ]
    refine skip_at (i := 17) rfl (by kernel_rfl) (fun _ _ _ h => h) (by kernel_rfl) hHeld ?_
    simp only [Act.put, List.setIfInBounds_toArray, List.set_cons_zero, List.set_cons_succ]
    refine skip_at (i := 18) rfl (by kernel_rfl) (fun _ _ _ h => h) (by kernel_rfl) hHeld ?_
    simp only [Act.put, List.setIfInBounds_toArray, List.set_cons_zero, List.set_cons_succ]
    refine skip_at (i := 19) rfl (by kernel_rfl) (fun _ _ _ h => h) (by kernel_rfl) hHeld ?_
    simp only [Act.put, List.setIfInBounds_toArray, List.set_cons_zero, List.set_cons_succ]
    refine skip_at (i := 20) rfl (by kernel_rfl) (fun _ _ _ h => h) (by kernel_rfl) hHeld ?_
    simp only [Act.put, List.setIfInBounds_toArray, List.set_cons_zero, List.set_cons_succ]
    refine run_at (i := 21) (v := ?_) rfl (by kernel_rfl) (by rfl) (fun _ _ _ h => h) hHeld (fun w1 hw1 => ?_) ?_
    rotate_left 1
    · skip
      go_simp
      (try (first | with_reducible rfl | (apply And.intro <;> rfl)))
    simp only [Act.put, List.setIfInBounds_toArray, List.set_cons_zero, List.set_cons_succ]
    refine run_at (i := 22) (v := ?_) rfl (by kernel_rfl) (by rfl) (fun _ _ _ h => h) hHeld (fun w1 hw1 => ?_) ?_
    rotate_left 1
    · skip
      go_simp
      (try (first | with_reducible rfl | (apply And.intro <;> rfl)))
    simp only [Act.put, List.setIfInBounds_toArray, List.set_cons_zero, List.set_cons_succ]
    refine skip_at (i := 23) rfl (by kernel_rfl) (fun _ _ _ h => h) (by kernel_rfl) hHeld ?_
    simp only [Act.put, List.setIfInBounds_toArray, List.set_cons_zero, List.set_cons_succ]
    refine skip_at (i := 24) rfl (by kernel_rfl) (fun _ _ _ h => h) (by kernel_rfl) hHeld ?_
    simp only [Act.put, List.setIfInBounds_toArray, List.set_cons_zero, List.set_cons_succ]
    refine skip_at (i := 25) rfl (by kernel_rfl) (fun _ _ _ h => h) (by kernel_rfl) hHeld ?_
    simp only [Act.put, List.setIfInBounds_toArray, List.set_cons_zero, List.set_cons_succ]
    refine skip_at (i := 26) rfl (by kernel_rfl) (fun _ _ _ h => h) (by kernel_rfl) hHeld ?_
    simp only [Act.put, List.setIfInBounds_toArray, List.set_cons_zero, List.set_cons_succ]
    refine skip_at (i := 27) rfl (by kernel_rfl) (fun _ _ _ h => h) (by kernel_rfl) hHeld ?_
    simp only [Act.put, List.setIfInBounds_toArray, List.set_cons_zero, List.set_cons_succ]
    refine skip_at (i := 28) rfl (by kernel_rfl) (fun _ _ _ h => h) (by kernel_rfl) hHeld ?_
    simp only [Act.put, List.setIfInBounds_toArray, List.set_cons_zero, List.set_cons_succ]
    refine run_at (i := 29) (v := ?_) rfl (by kernel_rfl) (by rfl) (fun _ _ _ h => h) hHeld (fun w1 hw1 => ?_) ?_
    rotate_left 1
    · skip
      go_simp
      (try (first | with_reducible rfl | (apply And.intro <;> rfl)))
    simp only [Act.put, List.setIfInBounds_toArray, List.set_cons_zero, List.set_cons_succ]
    refine run_at (i := 30) (v := ?_) rfl (by kernel_rfl) (by rfl) (fun _ _ _ h => h) hHeld (fun w1 hw1 => ?_) ?_
    rotate_left 1
    · skip
      go_simp
      (try (first | with_reducible rfl | (apply And.intro <;> rfl)))
    simp only [Act.put, List.setIfInBounds_toArray, List.set_cons_zero, List.set_cons_succ]
    refine wpAnyH_done (by kernel_rfl) ?_ _
    go_wp2
    go_ret
    exact ⟨by rw [HR.out]; rfl, HF0.out.and hHeld (by simp)⟩
  have h2' : x.t < 18446744073709551615 := by omega
  have hD2 : decide (x.t < 18446744073709551615) = true := by simp; omega
  by_cases h3 : x.b = x.r
  case neg =>
    have h3' : (x.b == x.r) = false := by simp [h3]
    have hD3 : decide (x.b = x.r) = false := by simp [h3]
    have HR : Hid (r = false) := Lib.hid (by rw [hr2, hB0, hD1, hD2, hD3]; rfl)
    clear hr2
    go_enter Try.func29, Try.ntmps29
    go_upto_region 1 with (fail)
    rw [← HWA.out]
    refine wp_region_held_drew (S := Fr [] wa) (by kernel_rfl) (Fr.drew (Fr.refl _ wa)) (fun hHeld => ?_)
    refine row_at (i := 0) rfl (by kernel_rfl) (by rfl) _ _ rfl _ _ rfl _ (fun w1 hw1 => hw1.range (HCF.out) (by first | (simp; done) | exact HNS.out | exact HNW.out | (intro hm; have hlt := HSB.out _ hm; (try dsimp only at hlt); omega))) (row_conf) (fun _ _ _ h => h) hHeld ?_
    simp only [Act.put, List.setIfInBounds_toArray, List.set_cons_zero, List.set_cons_succ]
    refine run_at (i := 1) (v := ?_) rfl (by kernel_rfl) (by rfl) (fun _ _ _ h => h) hHeld (fun w1 hw1 => ?_) ?_
    rotate_left 1
    · skip
      go_simp
      (try (first | with_reducible rfl | (apply And.intro <;> rfl)))
    simp only [Act.put, List.setIfInBounds_toArray, List.set_cons_zero, List.set_cons_succ]
    refine run_at (i := 2) (v := ?_) rfl (by kernel_rfl) (by rfl) (fun _ _ _ h => h) hHeld (fun w1 hw1 => ?_) ?_
    rotate_left 1
    · skip
      have hcw0 := hw1.cell (HAT.out.r) (by first | (simp; done) | exact HNS.out | exact HNW.out | (intro hm; have hlt := HSB.out _ hm; (try dsimp only at hlt); omega))
      go_simp
      (try (first | with_reducible rfl | (apply And.intro <;> rfl)))
    simp only [Act.put, List.setIfInBounds_toArray, List.set_cons_zero, List.set_cons_succ]
    refine call_at (i := 3) (f := ?_) (args := ?_) rfl (by kernel_rfl) (by rfl) ?_ ?_
    rotate_left 2
    · go_simp
      (try (first | with_reducible rfl | (apply And.intro <;> rfl)))
    have hh := rhas_any F k x.r HX.out.r wa.drew
    rw [hB0] at hh
    refine hh.mono ?_
    rintro e w1 ⟨rfl, hf1⟩
    refine ⟨_, rfl, hHeld.and hf1 (by simp), fun hHeld => ?_⟩
    clear hf1 hh
    simp only [Act.put, List.setIfInBounds_toArray, List.set_cons_zero, List.set_cons_succ]
    refine run_at (i := 4) (v := ?_) rfl (by kernel_rfl) (by rfl) (fun _ _ _ h => h) hHeld (fun w1 hw1 => ?_) ?_
    rotate_left 1
    · skip
      go_simp
      (try (first | with_reducible rfl | (apply And.intro <;> rfl)))
    simp only [Act.put, List.setIfInBounds_toArray, List.set_cons_zero, List.set_cons_succ]
    refine run_at (i := 5) (v := ?_) rfl (by kernel_rfl) (by rfl) (fun _ _ _ h => h) hHeld (fun w1 hw1 => ?_) ?_
    rotate_left 1
    · skip
      go_simp
      (try (first | with_reducible rfl | (apply And.intro <;> rfl)))
    simp only [Act.put, List.setIfInBounds_toArray, List.set_cons_zero, List.set_cons_succ]
    refine run_at (i := 6) (v := ?_) rfl (by kernel_rfl) (by rfl) (fun _ _ _ h => h) hHeld (fun w1 hw1 => ?_) ?_
    rotate_left 1
    · skip
      have hcw0 := hw1.cell (HAT.out.t) (by first | (simp; done) | exact HNS.out | exact HNW.out | (intro hm; have hlt := HSB.out _ hm; (try dsimp only at hlt); omega))
      go_simp
      (try (first | with_reducible rfl | (apply And.intro <;> rfl)))
    simp only [Act.put, List.setIfInBounds_toArray, List.set_cons_zero, List.set_cons_succ]
    refine run_at (i := 7) (v := ?_) rfl (by kernel_rfl) (by rfl) (fun _ _ _ h => h) hHeld (fun w1 hw1 => ?_) ?_
    rotate_left 1
    · skip
      go_simp
      (try (first | with_reducible rfl | (apply And.intro <;> rfl)))
    simp only [Act.put, List.setIfInBounds_toArray, List.set_cons_zero, List.set_cons_succ]
    refine run_at (i := 8) (v := ?_) rfl (by kernel_rfl) (by rfl) (fun _ _ _ h => h) hHeld (fun w1 hw1 => ?_) ?_
    rotate_left 1
    · skip
      go_simp
      (try (first | with_reducible rfl | (apply And.intro <;> rfl)))
    simp only [Act.put, List.setIfInBounds_toArray, List.set_cons_zero, List.set_cons_succ]
    refine run_at (i := 9) (v := ?_) rfl (by kernel_rfl) (by rfl) (fun _ _ _ h => h) hHeld (fun w1 hw1 => ?_) ?_
    rotate_left 1
    · skip
      go_simp
      (try (first | with_reducible rfl | (apply And.intro <;> rfl)))
    simp only [Act.put, List.setIfInBounds_toArray, List.set_cons_zero, List.set_cons_succ]
    refine run_at (i := 10) (v := ?_) rfl (by kernel_rfl) (by rfl) (fun _ _ _ h => h) hHeld (fun w1 hw1 => ?_) ?_
    rotate_left 1
    · skip
      go_simp
      (try (first | with_reducible rfl | (apply And.intro <;> rfl)))
    simp only [Act.put, List.setIfInBounds_toArray, List.set_cons_zero, List.set_cons_succ]
    refine run_at (i := 11) (v := ?_) rfl (by kernel_rfl) (by rfl) (fun _ _ _ h => h) hHeld (fun w1 hw1 => ?_) ?_
    rotate_left 1
    · skip
      have hcw0 := hw1.cell (HAT.out.t) (by first | (simp; done) | exact HNS.out | exact HNW.out | (intro hm; have hlt := HSB.out _ hm; (try dsimp only at hlt); omega))
      go_simp
      (try (first | with_reducible rfl | (apply And.intro <;> rfl)))
    simp only [Act.put, List.setIfInBounds_toArray, List.set_cons_zero, List.set_cons_succ]
    refine run_at (i := 12) (v := ?_) rfl (by kernel_rfl) (by rfl) (fun _ _ _ h => h) hHeld (fun w1 hw1 => ?_) ?_
    rotate_left 1
    · skip
      go_simp
      (try (first | with_reducible rfl | (apply And.intro <;> rfl)))
    simp only [Act.put, List.setIfInBounds_toArray, List.set_cons_zero, List.set_cons_succ]
    refine run_at (i := 13) (v := ?_) rfl (by kernel_rfl) (by rfl) (fun _ _ _ h => h) hHeld (fun w1 hw1 => ?_) ?_
    rotate_left 1
    · skip
      go_simp
      (try (first | with_reducible rfl | (apply And.intro <;> rfl)))
    simp only [Act.put, List.setIfInBounds_toArray, List.set_cons_zero, List.set_cons_succ]
    refine run_at (i := 14) (v := ?_) rfl (by kernel_rfl) (by rfl) (fun _ _ _ h => h) hHeld (fun w1 hw1 => ?_) ?_
    rotate_left 1
    · skip
      go_simp
      (try (first | with_reducible rfl | (apply And.intro <;> rfl)))
    simp only [Act.put, List.setIfInBounds_toArray, List.set_cons_zero, List.set_cons_succ]
    refine run_at (i := 15) (v := ?_) rfl (by kernel_rfl) (by rfl) (fun _ _ _ h => h) hHeld (fun w1 hw1 => ?_) ?_
    rotate_left 1
    · skip
      go_simp
      (try (first | with_reducible rfl | (apply And.intro <;> rfl)))
    simp only [Act.put, List.setIfInBounds_toArray, List.set_cons_zero, List.set_cons_succ]
    refine run_at (i := 16) (v := ?_) rfl (by kernel_rfl) (by rfl) (fun _ _ _ h => h) hHeld (fun w1 hw1 => ?_) ?_
    rotate_left 1
    · skip
      go_simp
      (try (first | with_reducible rfl | (apply And.intro <;> rfl)))
    simp only [Act.put, List.setIfInBounds_toArray, List.set_cons_zero, List.set_cons_succ]
    refine run_at (i := 17) (v := ?_) rfl (by kernel_rfl) (by rfl) (fun _ _ _ h => h) hHeld (fun w1 hw1 => ?_) ?_
    rotate_left 1
    · skip
      have hcw0 := hw1.cell (HAT.out.b) (by first | (simp; done) | exact HNS.out | exact HNW.out | (intro hm; have hlt := HSB.out _ hm; (try dsimp only at hlt); omega))
      go_simp
      (try (first | with_reducible rfl | (apply And.intro <;> rfl)))
    simp only [Act.put, List.setIfInBounds_toArray, List.set_cons_zero, List.set_cons_succ]
    refine run_at (i := 18) (v := ?_) rfl (by kernel_rfl) (by rfl) (fun _ _ _ h => h) hHeld (fun w1 hw1 => ?_) ?_
    rotate_left 1
    · skip
      go_simp
      (try (first | with_reducible rfl | (apply And.intro <;> rfl)))
    simp only [Act.put, List.setIfInBounds_toArray, List.set_cons_zero, List.set_cons_succ]
    refine run_at (i := 19) (v := ?_) rfl (by kernel_rfl) (by rfl) (fun _ _ _ h => h) hHeld (fun w1 hw1 => ?_) ?_
    rotate_left 1
    · skip
      have hcw0 := hw1.cell (HAT.out.r) (by first | (simp; done) | exact HNS.out | exact HNW.out | (intro hm; have hlt := HSB.out _ hm; (try dsimp only at hlt); omega))
      go_simp
      (try (first | with_reducible rfl | (apply And.intro <;> rfl)))
    simp only [Act.put, List.setIfInBounds_toArray, List.set_cons_zero, List.set_cons_succ]
    refine run_at (i := 20) (v := ?_) rfl (by kernel_rfl) (by rfl) (fun _ _ _ h => h) hHeld (fun w1 hw1 => ?_) ?_
    rotate_left 1
    · skip
      go_simp
      (try (first | with_reducible rfl | (apply And.intro <;> rfl)))
    simp only [Act.put, List.setIfInBounds_toArray, List.set_cons_zero, List.set_cons_succ]
    refine run_at (i := 21) (v := ?_) rfl (by kernel_rfl) (by rfl) (fun _ _ _ h => h) hHeld (fun w1 hw1 => ?_) ?_
    rotate_left 1
    · skip
      go_simp
      (try (first | with_reducible rfl | (apply And.intro <;> rfl)))
    simp only [Act.put, List.setIfInBounds_toArray, List.set_cons_zero, List.set_cons_succ]
    refine run_at (i := 22) (v := ?_) rfl (by kernel_rfl) (by rfl) (fun _ _ _ h => h) hHeld (fun w1 hw1 => ?_) ?_
    rotate_left 1
    · skip
      go_simp
      (try (first | with_reducible rfl | (apply And.intro <;> rfl)))
    simp only [Act.put, List.setIfInBounds_toArray, List.set_cons_zero, List.set_cons_succ]
    refine skip_at (i := 23) rfl (by kernel_rfl) (fun _ _ _ h => h) (by kernel_rfl) hHeld ?_
    simp only [Act.put, List.setIfInBounds_toArray, List.set_cons_zero, List.set_cons_succ]
    refine skip_at (i := 24) rfl (by kernel_rfl) (fun _ _ _ h => h) (by kernel_rfl) hHeld ?_
    simp only [Act.put, List.setIfInBounds_toArray, List.set_cons_zero, List.set_cons_succ]
    refine skip_at (i := 25) rfl (by kernel_rfl) (fun _ _ _ h => h) (by kernel_rfl) hHeld ?_
    simp only [Act.put, List.setIfInBounds_toArray, List.set_cons_zero, List.set_cons_succ]
    refine skip_at (i := 26) rfl (by kernel_rfl) (fun _ _ _ h => h) (by kernel_rfl) hHeld ?_
    simp only [Act.put, List.setIfInBounds_toArray, List.set_cons_zero, List.set_cons_succ]
    refine skip_at (i := 27) rfl (by kernel_rfl) (fun _ _ _ h => h) (by kernel_rfl) hHeld ?_
    simp only [Act.put, List.setIfInBounds_toArray, List.set_cons_zero, List.set_cons_succ]
    refine skip_at (i := 28) rfl (by kernel_rfl) (fun _ _ _ h => h) (by kernel_rfl) hHeld ?_
    simp only [Act.put, List.setIfInBounds_toArray, List.set_cons_zero, List.set_cons_succ]
    refine run_at (i := 29) (v := ?_) rfl (by kernel_rfl) (by rfl) (fun _ _ _ h => h) hHeld (fun w1 hw1 => ?_) ?_
    rotate_left 1
    · skip
      go_simp
      (try (first | with_reducible rfl | (apply And.intro <;> rfl)))
    simp only [Act.put, List.setIfInBounds_toArray, List.set_cons_zero, List.set_cons_succ]
    refine run_at (i := 30) (v := ?_) rfl (by kernel_rfl) (by rfl) (fun _ _ _ h => h) hHeld (fun w1 hw1 => ?_) ?_
    rotate_left 1
    · skip
      go_simp
      (try (first | with_reducible rfl | (apply And.intro <;> rfl)))
    simp only [Act.put, List.setIfInBounds_toArray, List.set_cons_zero, List.set_cons_succ]
    refine wpAnyH_done (by kernel_rfl) ?_ _
    go_wp2
    go_ret
    exact ⟨by rw [HR.out]; rfl, HF0.out.and hHeld (by simp)⟩
  have h3' : (x.b == x.r) = true := by simp [h3]
  have hD3 : decide (x.b = x.r) = true := by simp [h3]
  obtain ⟨C, hR5⟩ : ∃ C, rightB l x.b x.m x.text = C := ⟨_, rfl⟩
  have HR : Hid (r = C) := Lib.hid (by rw [hr2, hB0, hD1, hD2, hD3, hR5]; rfl)
  clear hr2
  go_enter Try.func29, Try.ntmps29
  go_upto_region 1 with (fail)
  rw [← HWA.out]
  refine wp_region_held_drew (S := Fr [] wa) (by kernel_rfl) (Fr.drew (Fr.refl _ wa)) (fun hHeld => ?_)
  refine row_at (i := 0) rfl (by kernel_rfl) (by rfl) _ _ rfl _ _ rfl _ (fun w1 hw1 => hw1.range (HCF.out) (by first | (simp; done) | exact HNS.out | exact HNW.out | (intro hm; have hlt := HSB.out _ hm; (try dsimp only at hlt); omega))) (row_conf) (fun _ _ _ h => h) hHeld ?_
  simp only [Act.put, List.setIfInBounds_toArray, List.set_cons_zero, List.set_cons_succ]
  refine run_at (i := 1) (v := ?_) rfl (by kernel_rfl) (by rfl) (fun _ _ _ h => h) hHeld (fun w1 hw1 => ?_) ?_
  rotate_left 1
  · skip
    go_simp
    (try (first | with_reducible rfl | (apply And.intro <;> rfl)))
  simp only [Act.put, List.setIfInBounds_toArray, List.set_cons_zero, List.set_cons_succ]
  refine run_at (i := 2) (v := ?_) rfl (by kernel_rfl) (by rfl) (fun _ _ _ h => h) hHeld (fun w1 hw1 => ?_) ?_
  rotate_left 1
  · skip
    have hcw0 := hw1.cell (HAT.out.r) (by first | (simp; done) | exact HNS.out | exact HNW.out | (intro hm; have hlt := HSB.out _ hm; (try dsimp only at hlt); omega))
    go_simp
    (try (first | with_reducible rfl | (apply And.intro <;> rfl)))
  simp only [Act.put, List.setIfInBounds_toArray, List.set_cons_zero, List.set_cons_succ]
  refine call_at (i := 3) (f := ?_) (args := ?_) rfl (by kernel_rfl) (by rfl) ?_ ?_
  rotate_left 2
  · go_simp
    (try (first | with_reducible rfl | (apply And.intro <;> rfl)))
  have hh := rhas_any F k x.r HX.out.r wa.drew
  rw [hB0] at hh
  refine hh.mono ?_
  rintro e w1 ⟨rfl, hf1⟩
  refine ⟨_, rfl, hHeld.and hf1 (by simp), fun hHeld => ?_⟩
  clear hf1 hh
  simp only [Act.put, List.setIfInBounds_toArray, List.set_cons_zero, List.set_cons_succ]
  refine run_at (i := 4) (v := ?_) rfl (by kernel_rfl) (by rfl) (fun _ _ _ h => h) hHeld (fun w1 hw1 => ?_) ?_
  rotate_left 1
  · skip
    go_simp
    (try (first | with_reducible rfl | (apply And.intro <;> rfl)))
  simp only [Act.put, List.setIfInBounds_toArray, List.set_cons_zero, List.set_cons_succ]
  refine run_at (i := 5) (v := ?_) rfl (by kernel_rfl) (by rfl) (fun _ _ _ h => h) hHeld (fun w1 hw1 => ?_) ?_
  rotate_left 1
  · skip
    go_simp
    (try (first | with_reducible rfl | (apply And.intro <;> rfl)))
  simp only [Act.put, List.setIfInBounds_toArray, List.set_cons_zero, List.set_cons_succ]
  refine run_at (i := 6) (v := ?_) rfl (by kernel_rfl) (by rfl) (fun _ _ _ h => h) hHeld (fun w1 hw1 => ?_) ?_
  rotate_left 1
  · skip
    have hcw0 := hw1.cell (HAT.out.t) (by first | (simp; done) | exact HNS.out | exact HNW.out | (intro hm; have hlt := HSB.out _ hm; (try dsimp only at hlt); omega))
    go_simp
    (try (first | with_reducible rfl | (apply And.intro <;> rfl)))
  simp only [Act.put, List.setIfInBounds_toArray, List.set_cons_zero, List.set_cons_succ]
  refine run_at (i := 7) (v := ?_) rfl (by kernel_rfl) (by rfl) (fun _ _ _ h => h) hHeld (fun w1 hw1 => ?_) ?_
  rotate_left 1
  · skip
    go_simp
    (try (first | with_reducible rfl | (apply And.intro <;> rfl)))
  simp only [Act.put, List.setIfInBounds_toArray, List.set_cons_zero, List.set_cons_succ]
  refine run_at (i := 8) (v := ?_) rfl (by kernel_rfl) (by rfl) (fun _ _ _ h => h) hHeld (fun w1 hw1 => ?_) ?_
  rotate_left 1
  · skip
    go_simp
    (try (first | with_reducible rfl | (apply And.intro <;> rfl)))
  simp only [Act.put, List.setIfInBounds_toArray, List.set_cons_zero, List.set_cons_succ]
  refine run_at (i := 9) (v := ?_) rfl (by kernel_rfl) (by rfl) (fun _ _ _ h => h) hHeld (fun w1 hw1 => ?_) ?_
  rotate_left 1
  · skip
    go_simp
    (try (first | with_reducible rfl | (apply And.intro <;> rfl)))
  simp only [Act.put, List.setIfInBounds_toArray, List.set_cons_zero, List.set_cons_succ]
  refine run_at (i := 10) (v := ?_) rfl (by kernel_rfl) (by rfl) (fun _ _ _ h => h) hHeld (fun w1 hw1 => ?_) ?_
  rotate_left 1
  · skip
    go_simp
    (try (first | with_reducible rfl | (apply And.intro <;> rfl)))
  simp only [Act.put, List.setIfInBounds_toArray, List.set_cons_zero, List.set_cons_succ]
  refine run_at (i := 11) (v := ?_) rfl (by kernel_rfl) (by rfl) (fun _ _ _ h => h) hHeld (fun w1 hw1 => ?_) ?_
  rotate_left 1
  · skip
    have hcw0 := hw1.cell (HAT.out.t) (by first | (simp; done) | exact HNS.out | exact HNW.out | (intro hm; have hlt := HSB.out _ hm; (try dsimp only at hlt); omega))
    go_simp
    (try (first | with_reducible rfl | (apply And.intro <;> rfl)))
  simp only [Act.put, List.setIfInBounds_toArray, List.set_cons_zero, List.set_cons_succ]
  refine run_at (i := 12) (v := ?_) rfl (by kernel_rfl) (by rfl) (fun _ _ _ h => h) hHeld (fun w1 hw1 => ?_) ?_
  rotate_left 1
  · skip
    go_simp
    (try (first | with_reducible rfl | (apply And.intro <;> rfl)))
  simp only [Act.put, List.setIfInBounds_toArray, List.set_cons_zero, List.set_cons_succ]
  refine run_at (i := 13) (v := ?_) rfl (by kernel_rfl) (by rfl) (fun _ _ _ h => h) hHeld (fun w1 hw1 => ?_) ?_
  rotate_left 1
  · skip
    go_simp
    (try (first | with_reducible rfl | (apply And.intro <;> rfl)))
  simp only [Act.put, List.setIfInBounds_toArray, List.set_cons_zero, List.set_cons_succ]
  refine run_at (i := 14) (v := ?_) rfl (by kernel_rfl) (by rfl) (fun _ _ _ h => h) hHeld (fun w1 hw1 => ?_) ?_
  rotate_left 1
  · skip
    go_simp
    (try (first | with_reducible rfl | (apply And.intro <;> rfl)))
  simp only [Act.put, List.setIfInBounds_toArray, List.set_cons_zero, List.set_cons_succ]
  refine run_at (i := 15) (v := ?_) rfl (by kernel_rfl) (by rfl) (fun _ _ _ h => h) hHeld (fun w1 hw1 => ?_) ?_
  rotate_left 1
  · skip
    go_simp
    (try (first | with_reducible rfl | (apply And.intro <;> rfl)))
  simp only [Act.put, List.setIfInBounds_toArray, List.set_cons_zero, List.set_cons_succ]
  refine run_at (i := 16) (v := ?_) rfl (by kernel_rfl) (by rfl) (fun _ _ _ h => h) hHeld (fun w1 hw1 => ?_) ?_
  rotate_left 1
  · skip
    go_simp
    (try (first | with_reducible rfl | (apply And.intro <;> rfl)))
  simp only [Act.put, List.setIfInBounds_toArray, List.set_cons_zero, List.set_cons_succ]
  refine run_at (i := 17) (v := ?_) rfl (by kernel_rfl) (by rfl) (fun _ _ _ h => h) hHeld (fun w1 hw1 => ?_) ?_
  rotate_left 1
  · skip
    have hcw0 := hw1.cell (HAT.out.b) (by first | (simp; done) | exact HNS.out | exact HNW.out | (intro hm; have hlt := HSB.out _ hm; (try dsimp only at hlt); omega))
    go_simp
    (try (first | with_reducible rfl | (apply And.intro <;> rfl)))
  simp only [Act.put, List.setIfInBounds_toArray, List.set_cons_zero, List.set_cons_succ]
  refine run_at (i := 18) (v := ?_) rfl (by kernel_rfl) (by rfl) (fun _ _ _ h => h) hHeld (fun w1 hw1 => ?_) ?_
  rotate_left 1
  · skip
    go_simp
    (try (first | with_reducible rfl | (apply And.intro <;> rfl)))
  simp only [Act.put, List.setIfInBounds_toArray, List.set_cons_zero, List.set_cons_succ]
  refine run_at (i := 19) (v := ?_) rfl (by kernel_rfl) (by rfl) (fun _ _ _ h => h) hHeld (fun w1 hw1 => ?_) ?_
  rotate_left 1
  · skip
    have hcw0 := hw1.cell (HAT.out.r) (by first | (simp; done) | exact HNS.out | exact HNW.out | (intro hm; have hlt := HSB.out _ hm; (try dsimp only at hlt); omega))
    go_simp
    (try (first | with_reducible rfl | (apply And.intro <;> rfl)))
  simp only [Act.put, List.setIfInBounds_toArray, List.set_cons_zero, List.set_cons_succ]
  refine run_at (i := 20) (v := ?_) rfl (by kernel_rfl) (by rfl) (fun _ _ _ h => h) hHeld (fun w1 hw1 => ?_) ?_
  rotate_left 1
  · skip
    go_simp
    (try (first | with_reducible rfl | (apply And.intro <;> rfl)))
  simp only [Act.put, List.setIfInBounds_toArray, List.set_cons_zero, List.set_cons_succ]
  refine run_at (i := 21) (v := ?_) rfl (by kernel_rfl) (by rfl) (fun _ _ _ h => h) hHeld (fun w1 hw1 => ?_) ?_
  rotate_left 1
  · skip
    go_simp
    (try (first | with_reducible rfl | (apply And.intro <;> rfl)))
  simp only [Act.put, List.setIfInBounds_toArray, List.set_cons_zero, List.set_cons_succ]
  refine run_at (i := 22) (v := ?_) rfl (by kernel_rfl) (by rfl) (fun _ _ _ h => h) hHeld (fun w1 hw1 => ?_) ?_
  rotate_left 1
  · skip
    go_simp
    (try (first | with_reducible rfl | (apply And.intro <;> rfl)))
  simp only [Act.put, List.setIfInBounds_toArray, List.set_cons_zero, List.set_cons_succ]
  refine run_at (i := 23) (v := ?_) rfl (by kernel_rfl) (by rfl) (fun _ _ _ h => h) hHeld (fun w1 hw1 => ?_) ?_
  rotate_left 1
  · skip
    go_simp
    (try (first | with_reducible rfl | (apply And.intro <;> rfl)))
  simp only [Act.put, List.setIfInBounds_toArray, List.set_cons_zero, List.set_cons_succ]
  refine run_at (i := 24) (v := ?_) rfl (by kernel_rfl) (by rfl) (fun _ _ _ h => h) hHeld (fun w1 hw1 => ?_) ?_
  rotate_left 1
  · skip
    go_simp
    (try (first | with_reducible rfl | (apply And.intro <;> rfl)))
  simp only [Act.put, List.setIfInBounds_toArray, List.set_cons_zero, List.set_cons_succ]
  refine row_at (i := 25) rfl (by kernel_rfl) (by rfl) _ _ rfl _ _ rfl _ (fun w1 hw1 => hw1.range (HAT.out.sig) (by first | (simp; done) | exact HNS.out | exact HNW.out | (intro hm; have hlt := HSB.out _ hm; (try dsimp only at hlt); omega))) (row_sig) (fun _ _ _ h => h) hHeld ?_
  simp only [Act.put, List.setIfInBounds_toArray, List.set_cons_zero, List.set_cons_succ]
  refine row_at (i := 26) rfl (by kernel_rfl) (by rfl) _ _ rfl _ _ rfl _ (fun w1 hw1 => hw1.range (HAT.out.all) (by first | (simp; done) | exact HNS.out | exact HNW.out | (intro hm; have hlt := HSB.out _ hm; (try dsimp only at hlt); omega))) (row_stamp.of HCL.out) (fun _ _ _ h => h) hHeld ?_
  simp only [Act.put, List.setIfInBounds_toArray, List.set_cons_zero, List.set_cons_succ]
  refine call_at (i := 27) (f := ?_) (args := ?_) rfl (by kernel_rfl) (by rfl) ?_ ?_
  rotate_left 2
  · go_simp
    (try (first | with_reducible rfl | (apply And.intro <;> rfl)))
  refine (stampText_any x HX.out _).mono ?_
  rintro e w2 ⟨A2, c2, rfl, hN2⟩
  refine ⟨_, rfl, hHeld.and hN2.2.1 (by simp), fun hHeld => ?_⟩
  have HN2 := Lib.hid hN2
  clear hN2
  simp only [Act.put, List.setIfInBounds_toArray, List.set_cons_zero, List.set_cons_succ]
  refine call_at (i := 28) (f := ?_) (args := ?_) rfl (by kernel_rfl) (by rfl) ?_ ?_
  rotate_left 2
  · go_simp
    (try (first | with_reducible rfl | (apply And.intro <;> rfl)))
  have hh2 := right_any _ Sb gb l (HBK.out.keep hHeld (by simp)) x.b x.m (wf_i64 HX.out.b) A2 x.text.length c2 x.text HN2.out.by (by have := HTL.out; unfold maxLen; omega)
  rw [hR5, h3] at hh2
  refine hh2.mono ?_
  rintro e w3 ⟨rfl, hf3⟩
  refine ⟨_, rfl, hHeld.and hf3 (by simp), fun hHeld => ?_⟩
  clear hf3 hh2
  simp only [Act.put, List.setIfInBounds_toArray, List.set_cons_zero, List.set_cons_succ]
  refine run_at (i := 29) (v := ?_) rfl (by kernel_rfl) (by rfl) (fun _ _ _ h => h) hHeld (fun w1 hw1 => ?_) ?_
  rotate_left 1
  · skip
    go_simp
    (try (first | with_reducible rfl | (apply And.intro <;> rfl)))
  simp only [Act.put, List.setIfInBounds_toArray, List.set_cons_zero, List.set_cons_succ]
  refine run_at (i := 30) (v := ?_) rfl (by kernel_rfl) (by rfl) (fun _ _ _ h => h) hHeld (fun w1 hw1 => ?_) ?_
  rotate_left 1
  · skip
    go_simp
    (try (first | with_reducible rfl | (apply And.intro <;> rfl)))
  simp only [Act.put, List.setIfInBounds_toArray, List.set_cons_zero, List.set_cons_succ]
  refine wpAnyH_done (by kernel_rfl) ?_ _
  go_wp2
  go_ret
  exact ⟨by rw [HR.out]; rfl, HF0.out.and hHeld (by simp)⟩
end Go.Proofs.Ytlkhfhhaallhgaa

namespace Go.Proofs.Ytlkhfhhaallhgaa
open Go.RowKit
set_option maxRecDepth 100000
end Go.Proofs.Ytlkhfhhaallhgaa

namespace Go.Proofs.Ytlkhfhhaallhgaa
open Go.RowKit
set_option maxRecDepth 100000

theorem not_f {X : Bool} (h : true = !X) : X = false := by cases X <;> simp_all
theorem not_t {X : Bool} (h : false = !X) : X = true := by cases X <;> simp_all
def cmOf (k : Wcm) : Cm := ⟨k.c, k.s, k.h, k.n, k.b, k.m⟩
theorem cmOf_ok {k : Wcm} (h : k.Ok) : (cmOf k).Ok := ⟨h.c, h.s, h.h, h.n, h.b, h.m⟩
def stA (L : List Wst) (i : Nat) : Wst := L.getD i zStc
theorem stA_of {L : List Wst} {i : Nat} {v : Wst} (h : L[i]? = some v) : stA L i = v := by unfold stA; rw [List.getD, h]; rfl
/-- place i of a certificate's stamps is as it should be -/
def okAt (F : Int) (l : List Ent) (k : Wcm) (L : List Wst) (i : Nat) : Bool := (decide (i = 0) || decide ((stA L (i - 1)).r < (stA L i).r)) && (ofB (stA L i) k && stampB F l (stA L i))
def certB (F K : Int) (l : List Ent) (x : Wce) : Bool := decide ((x.n : Int) = 2 * F + 1) && (rightC K l (cmOf x.k) && (List.range x.n).all (okAt F l x.k x.l))
theorem certB_stop {F K : Int} {l : List Ent} {x : Wce} {i : Nat} (hi : i < x.n) (h : okAt F l x.k x.l i = false) : certB F K l x = false := by
  have : (List.range x.n).all (okAt F l x.k x.l) = false := by
    rw [List.all_eq_false]
    exact ⟨i, List.mem_range.2 hi, by rw [h]; simp⟩
  unfold certB
  rw [this]
  simp
theorem certB_end {F K : Int} {l : List Ent} {x : Wce} (h1 : (x.n : Int) = 2 * F + 1) (h2 : rightC K l (cmOf x.k) = true) (h : ∀ i, i < x.n → okAt F l x.k x.l i = true) : certB F K l x = true := by
  have : (List.range x.n).all (okAt F l x.k x.l) = true := by
    rw [List.all_eq_true]
    exact fun i hi => h i (List.mem_range.1 hi)
  unfold certB
  rw [this, h2]
  simp [h1]
end Go.Proofs.Ytlkhfhhaallhgaa

namespace Go.Proofs.Ytlkhfhhaallhgaa
open Go.RowKit
set_option maxRecDepth 100000

theorem rightC_nil (k : Int) (x : Cm) : rightC k [] x = false := by unfold rightC rightB; simp
end Go.Proofs.Ytlkhfhhaallhgaa

namespace Go.Proofs.Ytlkhfhhaallhgaa
open Go.RowKit
set_option maxRecDepth 100000
set_option maxHeartbeats 8000000 in
theorem cert_any (F K : Int) (hF : -1099511627776 ≤ F ∧ F ≤ 1099511627776) (x : Wce) (w : World) (hx : x.In w) (C : List Value) (hC : x.cells = C) (Sb : List Nat) (gb : Nat) (l : List Ent) (hb : Bok w Sb gb l) :
    Calls Try.prog 11 #[.agg #[.int .i64 F, .int .i64 K], .pointer (some ⟨gb, 0, none⟩), .agg C.toArray] w fun e w' => e = .returned (.bool (certB F K l x)) ∧ Fr [] w w' := by
  obtain ⟨wa, hwa⟩ : ∃ wa, wa = (w.alloc (Obj.cells #[.int .i64 F, .int .i64 K] 27)).alloc (Obj.cells C.toArray 48) := ⟨_, rfl⟩
  have hf0 : Fr [] w wa := by rw [hwa]; exact ((Fr.refl [] w).alloc _).alloc _
  have hb0 : Blk wa (w.heap.size + 1) 48 x.cells.toArray := by
    have := Blk.new (w.alloc (Obj.cells #[.int .i64 F, .int .i64 K] 27)) 48 C.toArray
    rw [hwa, hC]; simpa using this
  have hb1 : Blk wa w.heap.size 27 #[.int .i64 F, .int .i64 K] := by rw [hwa]; exact blk_alloc (Blk.new _ _ _)
  have H37 := Lib.hid (Wce.cell37 hb0 hx.k.h)
  have HCM : Hid (wa.rangeAt (w.heap.size + 1) 0 x.k.cells) := Lib.hid (by
    have h := hb0.range
    have e : x.cells = [] ++ (x.k.cells ++ [Value.slice x.A x.n x.d]) := by rfl
    rw [e] at h
    exact rangeAt_sub (o := 0) (xs := []) (ys := x.k.cells) (zs := [Value.slice x.A x.n x.d]) h)
  have HKA := Lib.hid (Wcm.at_of HCM.out hx.k.h)
  have HCF := Lib.hid hb1.range
  have HX := Lib.hid (hx.keep hf0)
  have HF0 := Lib.hid hf0
  have HWA := Lib.hid hwa
  have HBK := Lib.hid (hb.keep hf0 (by simp))
  have HCL := Lib.hid (Wcm.len hx.k.h)
  have HSB : Hid (w.heap.size + 1 < wa.heap.size) := Lib.hid hb0.lt
  clear hwa hf0 hb0 hb1 hx hb hC
  have HR0 := Lib.hid (show certB F K l x = (decide ((x.n : Int) = 2 * F + 1) && (rightC K l (cmOf x.k) && (List.range x.n).all (okAt F l x.k x.l))) from rfl)
  have HSTOP := Lib.hid (fun i => @certB_stop F K l x i)
  have HENDT := Lib.hid (@certB_end F K l x)
  obtain ⟨r, hr⟩ : ∃ r, certB F K l x = r := ⟨_, rfl⟩
  rw [hr] at HR0 HSTOP HENDT ⊢
  clear hr
  generalize hN : x.n = n at *
  generalize hA : x.A = A at *
  have HNN := Lib.hid hN
  have HAA := Lib.hid hA
  clear hN hA
  go_enter Try.func11, Try.ntmps11
  go_upto_region 1 with (fail)
  change Code.wp _ _ _ _ ((w.alloc (Obj.cells #[.int .i64 F, .int .i64 K] 27)).alloc (Obj.cells C.toArray 48))
  rw [← HWA.out]
  by_cases hq : (n : Int) = 2 * F + 1
  case neg =>
    have hne : ((n : Int) == 2 * F + 1) = false := by simp [hq]
    have hne2 : ((n : Int) != 2 * F + 1) = true := by simp [hq]
    have HR : Hid (r = false) := Lib.hid (by rw [HR0.out]; simp [hq])
    refine wp_region_held_drew (S := Fr [] wa) (by kernel_rfl) (Fr.drew (Fr.refl _ wa)) (fun hHeld => ?_)
    refine run_at (i := 0) (v := ?_) rfl (by kernel_rfl) (by rfl) (fun _ _ _ h => h) hHeld (fun w1 hw1 => ?_) ?_
    rotate_left 1
    · skip
      go_simp
      (try (first | with_reducible rfl | (apply And.intro <;> rfl)))
    simp only [Act.put, List.setIfInBounds_toArray, List.set_cons_zero, List.set_cons_succ]
    refine run_at (i := 1) (v := ?_) rfl (by kernel_rfl) (by rfl) (fun _ _ _ h => h) hHeld (fun w1 hw1 => ?_) ?_
    rotate_left 1
    · skip
      have hcw0 := hw1.cell (H37.out) (by first | (simp; done) | exact HNS.out | exact HNW.out | (intro hm; have hlt := HSB.out _ hm; (try dsimp only at hlt); omega))
      go_simp
      (try (first | with_reducible rfl | (apply And.intro <;> rfl)))
    simp only [Act.put, List.setIfInBounds_toArray, List.set_cons_zero, List.set_cons_succ]
    refine run_at (i := 2) (v := ?_) rfl (by kernel_rfl) (by rfl) (fun _ _ _ h => h) hHeld (fun w1 hw1 => ?_) ?_
    rotate_left 1
    · skip
      go_simp
      (try (first | with_reducible rfl | (apply And.intro <;> rfl)))
    simp only [Act.put, List.setIfInBounds_toArray, List.set_cons_zero, List.set_cons_succ]
    refine row_at (i := 3) rfl (by kernel_rfl) (by rfl) _ _ rfl _ _ rfl _ (fun w1 hw1 => hw1.range (HCF.out) (by first | (simp; done) | exact HNS.out | exact HNW.out | (intro hm; have hlt := HSB.out _ hm; (try dsimp only at hlt); omega))) (row_conf) (fun _ _ _ h => h) hHeld ?_
    simp only [Act.put, List.setIfInBounds_toArray, List.set_cons_zero, List.set_cons_succ]
    refine call_at (i := 4) (f := ?_) (args := ?_) rfl (by kernel_rfl) (by rfl) ?_ ?_
    rotate_left 2
    · go_simp
      (try (first | with_reducible rfl | (apply And.intro <;> rfl)))
    refine (quorum_any F K hF _).mono ?_
    rintro e w1 ⟨rfl, hf1⟩
    refine ⟨_, rfl, hHeld.and hf1 (by simp), fun hHeld => ?_⟩
    clear hf1
    simp only [Act.put, List.setIfInBounds_toArray, List.set_cons_zero, List.set_cons_succ]
    refine run_at (i := 5) (v := ?_) rfl (by kernel_rfl) (by rfl) (fun _ _ _ h => h) hHeld (fun w1 hw1 => ?_) ?_
    rotate_left 1
    · skip
      go_simp
      (try (first | with_reducible rfl | (apply And.intro <;> rfl)))
    simp only [Act.put, List.setIfInBounds_toArray, List.set_cons_zero, List.set_cons_succ]
    refine run_at (i := 6) (v := ?_) rfl (by kernel_rfl) (by rfl) (fun _ _ _ h => h) hHeld (fun w1 hw1 => ?_) ?_
    rotate_left 1
    · skip
      go_simp
      (try (first | with_reducible rfl | (apply And.intro <;> rfl)))
    simp only [Act.put, List.setIfInBounds_toArray, List.set_cons_zero, List.set_cons_succ]
    refine skip_at (i := 7) rfl (by kernel_rfl) (fun _ _ _ h => h) (by kernel_rfl) hHeld ?_
    simp only [Act.put, List.setIfInBounds_toArray, List.set_cons_zero, List.set_cons_succ]
    refine skip_at (i := 8) rfl (by kernel_rfl) (fun _ _ _ h => h) (by kernel_rfl) hHeld ?_
    simp only [Act.put, List.setIfInBounds_toArray, List.set_cons_zero, List.set_cons_succ]
    refine skip_at (i := 9) rfl (by kernel_rfl) (fun _ _ _ h => h) (by kernel_rfl) hHeld ?_
    simp only [Act.put, List.setIfInBounds_toArray, List.set_cons_zero, List.set_cons_succ]
    refine skip_at (i := 10) rfl (by kernel_rfl) (fun _ _ _ h => h) (by kernel_rfl) hHeld ?_
    simp only [Act.put, List.setIfInBounds_toArray, List.set_cons_zero, List.set_cons_succ]
    refine skip_at (i := 11) rfl (by kernel_rfl) (fun _ _ _ h => h) (by kernel_rfl) hHeld ?_
    simp only [Act.put, List.setIfInBounds_toArray, List.set_cons_zero, List.set_cons_succ]
    refine skip_at (i := 12) rfl (by kernel_rfl) (fun _ _ _ h => h) (by kernel_rfl) hHeld ?_
    simp only [Act.put, List.setIfInBounds_toArray, List.set_cons_zero, List.set_cons_succ]
    refine run_at (i := 13) (v := ?_) rfl (by kernel_rfl) (by rfl) (fun _ _ _ h => h) hHeld (fun w1 hw1 => ?_) ?_
    rotate_left 1
    · skip
      go_simp
      (try (first | with_reducible rfl | (apply And.intro <;> rfl)))
    simp only [Act.put, List.setIfInBounds_toArray, List.set_cons_zero, List.set_cons_succ]
    refine wpAnyH_done (by kernel_rfl) ?_ _
    go_wp2
    go_ret
    exact ⟨by rw [HR.out]; rfl, HF0.out.and hHeld (by simp)⟩
  have hne : ((n : Int) == 2 * F + 1) = true := by simp [hq]
  have hne2 : ((n : Int) != 2 * F + 1) = false := by simp [hq]
  have HQ := Lib.hid hq
  clear hq
  cases hB0 : rightC K l (cmOf x.k)
  case false =>
    have HR : Hid (r = false) := Lib.hid (by rw [HR0.out, hB0]; simp)
    refine wp_region_held_drew (S := Fr [] wa) (by kernel_rfl) (Fr.drew (Fr.refl _ wa)) (fun hHeld => ?_)
    refine run_at (i := 0) (v := ?_) rfl (by kernel_rfl) (by rfl) (fun _ _ _ h => h) hHeld (fun w1 hw1 => ?_) ?_
    rotate_left 1
    · skip
      go_simp
      (try (first | with_reducible rfl | (apply And.intro <;> rfl)))
    simp only [Act.put, List.setIfInBounds_toArray, List.set_cons_zero, List.set_cons_succ]
    refine run_at (i := 1) (v := ?_) rfl (by kernel_rfl) (by rfl) (fun _ _ _ h => h) hHeld (fun w1 hw1 => ?_) ?_
    rotate_left 1
    · skip
      have hcw0 := hw1.cell (H37.out) (by first | (simp; done) | exact HNS.out | exact HNW.out | (intro hm; have hlt := HSB.out _ hm; (try dsimp only at hlt); omega))
      go_simp
      (try (first | with_reducible rfl | (apply And.intro <;> rfl)))
    simp only [Act.put, List.setIfInBounds_toArray, List.set_cons_zero, List.set_cons_succ]
    refine run_at (i := 2) (v := ?_) rfl (by kernel_rfl) (by rfl) (fun _ _ _ h => h) hHeld (fun w1 hw1 => ?_) ?_
    rotate_left 1
    · skip
      go_simp
      (try (first | with_reducible rfl | (apply And.intro <;> rfl)))
    simp only [Act.put, List.setIfInBounds_toArray, List.set_cons_zero, List.set_cons_succ]
    refine row_at (i := 3) rfl (by kernel_rfl) (by rfl) _ _ rfl _ _ rfl _ (fun w1 hw1 => hw1.range (HCF.out) (by first | (simp; done) | exact HNS.out | exact HNW.out | (intro hm; have hlt := HSB.out _ hm; (try dsimp only at hlt); omega))) (row_conf) (fun _ _ _ h => h) hHeld ?_
    simp only [Act.put, List.setIfInBounds_toArray, List.set_cons_zero, List.set_cons_succ]
    refine call_at (i := 4) (f := ?_) (args := ?_) rfl (by kernel_rfl) (by rfl) ?_ ?_
    rotate_left 2
    · go_simp
      (try (first | with_reducible rfl | (apply And.intro <;> rfl)))
    refine (quorum_any F K hF _).mono ?_
    rintro e w1 ⟨rfl, hf1⟩
    refine ⟨_, rfl, hHeld.and hf1 (by simp), fun hHeld => ?_⟩
    clear hf1
    simp only [Act.put, List.setIfInBounds_toArray, List.set_cons_zero, List.set_cons_succ]
    refine run_at (i := 5) (v := ?_) rfl (by kernel_rfl) (by rfl) (fun _ _ _ h => h) hHeld (fun w1 hw1 => ?_) ?_
    rotate_left 1
    · skip
      go_simp
      (try (first | with_reducible rfl | (apply And.intro <;> rfl)))
    simp only [Act.put, List.setIfInBounds_toArray, List.set_cons_zero, List.set_cons_succ]
    refine run_at (i := 6) (v := ?_) rfl (by kernel_rfl) (by rfl) (fun _ _ _ h => h) hHeld (fun w1 hw1 => ?_) ?_
    rotate_left 1
    · skip
      go_simp
      (try (first | with_reducible rfl | (apply And.intro <;> rfl)))
    simp only [Act.put, List.setIfInBounds_toArray, List.set_cons_zero, List.set_cons_succ]
    refine row_at (i := 7) rfl (by kernel_rfl) (by rfl) _ _ rfl _ _ rfl _ (fun w1 hw1 => hw1.range (HCF.out) (by first | (simp; done) | exact HNS.out | exact HNW.out | (intro hm; have hlt := HSB.out _ hm; (try dsimp only at hlt); omega))) (row_conf) (fun _ _ _ h => h) hHeld ?_
    simp only [Act.put, List.setIfInBounds_toArray, List.set_cons_zero, List.set_cons_succ]
    refine run_at (i := 8) (v := ?_) rfl (by kernel_rfl) (by rfl) (fun _ _ _ h => h) hHeld (fun w1 hw1 => ?_) ?_
    rotate_left 1
    · skip
      go_simp
      (try (first | with_reducible rfl | (apply And.intro <;> rfl)))
    simp only [Act.put, List.setIfInBounds_toArray, List.set_cons_zero, List.set_cons_succ]
    refine run_at (i := 9) (v := ?_) rfl (by kernel_rfl) (by rfl) (fun _ _ _ h => h) hHeld (fun w1 hw1 => ?_) ?_
    rotate_left 1
    · skip
      go_simp
      (try (first | with_reducible rfl | (apply And.intro <;> rfl)))
    simp only [Act.put, List.setIfInBounds_toArray, List.set_cons_zero, List.set_cons_succ]
    refine row_at (i := 10) rfl (by kernel_rfl) (by rfl) _ _ rfl _ _ rfl _ (fun w1 hw1 => hw1.range (HCM.out) (by first | (simp; done) | exact HNS.out | exact HNW.out | (intro hm; have hlt := HSB.out _ hm; (try dsimp only at hlt); omega))) (row_cmt.of HCL.out) (fun _ _ _ h => h) hHeld ?_
    simp only [Act.put, List.setIfInBounds_toArray, List.set_cons_zero, List.set_cons_succ]
    refine call_at (i := 11) (f := ?_) (args := ?_) rfl (by kernel_rfl) (by rfl) ?_ ?_
    rotate_left 2
    · go_simp
      (try (first | with_reducible rfl | (apply And.intro <;> rfl)))
    have hh := cright_any F K (cmOf x.k) (cmOf_ok HX.out.k) _ Sb gb l (HBK.out.keep hHeld (by simp))
    rw [hB0] at hh
    refine hh.mono ?_
    rintro e w2 ⟨rfl, hf2⟩
    refine ⟨_, rfl, hHeld.and hf2 (by simp), fun hHeld => ?_⟩
    clear hf2 hh
    simp only [Act.put, List.setIfInBounds_toArray, List.set_cons_zero, List.set_cons_succ]
    refine run_at (i := 12) (v := ?_) rfl (by kernel_rfl) (by rfl) (fun _ _ _ h => h) hHeld (fun w1 hw1 => ?_) ?_
    rotate_left 1
    · skip
      go_simp
      (try (first | with_reducible rfl | (apply And.intro <;> rfl)))
    simp only [Act.put, List.setIfInBounds_toArray, List.set_cons_zero, List.set_cons_succ]
    refine run_at (i := 13) (v := ?_) rfl (by kernel_rfl) (by rfl) (fun _ _ _ h => h) hHeld (fun w1 hw1 => ?_) ?_
    rotate_left 1
    · skip
      go_simp
      (try (first | with_reducible rfl | (apply And.intro <;> rfl)))
    simp only [Act.put, List.setIfInBounds_toArray, List.set_cons_zero, List.set_cons_succ]
    refine wpAnyH_done (by kernel_rfl) ?_ _
    go_wp2
    go_ret
    exact ⟨by rw [HR.out]; rfl, HF0.out.and hHeld (by simp)⟩
  have HB0 := Lib.hid hB0
  refine wp_region_held_drew (S := Fr [] wa) (by kernel_rfl) (Fr.drew (Fr.refl _ wa)) (fun hHeld => ?_)
  refine run_at (i := 0) (v := ?_) rfl (by kernel_rfl) (by rfl) (fun _ _ _ h => h) hHeld (fun w1 hw1 => ?_) ?_
  rotate_left 1
  · skip
    go_simp
    (try (first | with_reducible rfl | (apply And.intro <;> rfl)))
  simp only [Act.put, List.setIfInBounds_toArray, List.set_cons_zero, List.set_cons_succ]
  refine run_at (i := 1) (v := ?_) rfl (by kernel_rfl) (by rfl) (fun _ _ _ h => h) hHeld (fun w1 hw1 => ?_) ?_
  rotate_left 1
  · skip
    have hcw0 := hw1.cell (H37.out) (by first | (simp; done) | exact HNS.out | exact HNW.out | (intro hm; have hlt := HSB.out _ hm; (try dsimp only at hlt); omega))
    go_simp
    (try (first | with_reducible rfl | (apply And.intro <;> rfl)))
  simp only [Act.put, List.setIfInBounds_toArray, List.set_cons_zero, List.set_cons_succ]
  refine run_at (i := 2) (v := ?_) rfl (by kernel_rfl) (by rfl) (fun _ _ _ h => h) hHeld (fun w1 hw1 => ?_) ?_
  rotate_left 1
  · skip
    go_simp
    (try (first | with_reducible rfl | (apply And.intro <;> rfl)))
  simp only [Act.put, List.setIfInBounds_toArray, List.set_cons_zero, List.set_cons_succ]
  refine row_at (i := 3) rfl (by kernel_rfl) (by rfl) _ _ rfl _ _ rfl _ (fun w1 hw1 => hw1.range (HCF.out) (by first | (simp; done) | exact HNS.out | exact HNW.out | (intro hm; have hlt := HSB.out _ hm; (try dsimp only at hlt); omega))) (row_conf) (fun _ _ _ h => h) hHeld ?_
  simp only [Act.put, List.setIfInBounds_toArray, List.set_cons_zero, List.set_cons_succ]
  refine call_at (i := 4) (f := ?_) (args := ?_) rfl (by kernel_rfl) (by rfl) ?_ ?_
  rotate_left 2
  · go_simp
    (try (first | with_reducible rfl | (apply And.intro <;> rfl)))
  refine (quorum_any F K hF _).mono ?_
  rintro e w1 ⟨rfl, hf1⟩
  refine ⟨_, rfl, hHeld.and hf1 (by simp), fun hHeld => ?_⟩
  clear hf1
  simp only [Act.put, List.setIfInBounds_toArray, List.set_cons_zero, List.set_cons_succ]
  refine run_at (i := 5) (v := ?_) rfl (by kernel_rfl) (by rfl) (fun _ _ _ h => h) hHeld (fun w1 hw1 => ?_) ?_
  rotate_left 1
  · skip
    go_simp
    (try (first | with_reducible rfl | (apply And.intro <;> rfl)))
  simp only [Act.put, List.setIfInBounds_toArray, List.set_cons_zero, List.set_cons_succ]
  refine run_at (i := 6) (v := ?_) rfl (by kernel_rfl) (by rfl) (fun _ _ _ h => h) hHeld (fun w1 hw1 => ?_) ?_
  rotate_left 1
  · skip
    go_simp
    (try (first | with_reducible rfl | (apply And.intro <;> rfl)))
  simp only [Act.put, List.setIfInBounds_toArray, List.set_cons_zero, List.set_cons_succ]
  refine row_at (i := 7) rfl (by kernel_rfl) (by rfl) _ _ rfl _ _ rfl _ (fun w1 hw1 => hw1.range (HCF.out) (by first | (simp; done) | exact HNS.out | exact HNW.out | (intro hm; have hlt := HSB.out _ hm; (try dsimp only at hlt); omega))) (row_conf) (fun _ _ _ h => h) hHeld ?_
  simp only [Act.put, List.setIfInBounds_toArray, List.set_cons_zero, List.set_cons_succ]
  refine run_at (i := 8) (v := ?_) rfl (by kernel_rfl) (by rfl) (fun _ _ _ h => h) hHeld (fun w1 hw1 => ?_) ?_
  rotate_left 1
  · skip
    go_simp
    (try (first | with_reducible rfl | (apply And.intro <;> rfl)))
  simp only [Act.put, List.setIfInBounds_toArray, List.set_cons_zero, List.set_cons_succ]
  refine run_at (i := 9) (v := ?_) rfl (by kernel_rfl) (by rfl) (fun _ _ _ h => h) hHeld (fun w1 hw1 => ?_) ?_
  rotate_left 1
  · skip
    go_simp
    (try (first | with_reducible rfl | (apply And.intro <;> rfl)))
  simp only [Act.put, List.setIfInBounds_toArray, List.set_cons_zero, List.set_cons_succ]
  refine row_at (i := 10) rfl (by kernel_rfl) (by rfl) _ _ rfl _ _ rfl _ (fun w1 hw1 => hw1.range (HCM.out) (by first | (simp; done) | exact HNS.out | exact HNW.out | (intro hm; have hlt := HSB.out _ hm; (try dsimp only at hlt); omega))) (row_cmt.of HCL.out) (fun _ _ _ h => h) hHeld ?_
  simp only [Act.put, List.setIfInBounds_toArray, List.set_cons_zero, List.set_cons_succ]
  refine call_at (i := 11) (f := ?_) (args := ?_) rfl (by kernel_rfl) (by rfl) ?_ ?_
  rotate_left 2
  · go_simp
    (try (first | with_reducible rfl | (apply And.intro <;> rfl)))
  have hh := cright_any F K (cmOf x.k) (cmOf_ok HX.out.k) _ Sb gb l (HBK.out.keep hHeld (by simp))
  rw [hB0] at hh
  refine hh.mono ?_
  rintro e w2 ⟨rfl, hf2⟩
  refine ⟨_, rfl, hHeld.and hf2 (by simp), fun hHeld => ?_⟩
  clear hf2 hh
  simp only [Act.put, List.setIfInBounds_toArray, List.set_cons_zero, List.set_cons_succ]
  refine run_at (i := 12) (v := ?_) rfl (by kernel_rfl) (by rfl) (fun _ _ _ h => h) hHeld (fun w1 hw1 => ?_) ?_
  rotate_left 1
  · skip
    go_simp
    (try (first | with_reducible rfl | (apply And.intro <;> rfl)))
  simp only [Act.put, List.setIfInBounds_toArray, List.set_cons_zero, List.set_cons_succ]
  refine run_at (i := 13) (v := ?_) rfl (by kernel_rfl) (by rfl) (fun _ _ _ h => h) hHeld (fun w1 hw1 => ?_) ?_
  rotate_left 1
  · skip
    go_simp
    (try (first | with_reducible rfl | (apply And.intro <;> rfl)))
  simp only [Act.put, List.setIfInBounds_toArray, List.set_cons_zero, List.set_cons_succ]
  refine wpAnyH_done (by kernel_rfl) ?_ _
  have hn0 : n ≤ 9223372036854775807 := by have := HX.out.n; rw [HNN.out] at this; exact this
  have HF1 := Lib.hid hHeld
  have h37 := HF1.out.cell H37.out (by simp)
  rename World => wb
  clear hHeld hne hne2 hB0
  go_wp2_with fail
  go_loopw [26] (fun i wr => ∃ k : Nat, k ≤ n ∧ i = .int .i64 k ∧ Hid (∀ j, j < k → okAt F l x.k x.l j = true) ∧ Hid (Fr [] wa wr)) (fun i _ => n + 1 - (intOf i).toNat)
  case atStart => exact ⟨0, Nat.zero_le _, rfl, Lib.hid (fun j hj => by omega), HF1⟩
  case round =>
    obtain ⟨k, hk, rfl, HOKS, HF⟩ := hrel
    rename World => wr
    clear h37
    by_cases hkn : k < n
    case neg =>
      have hR : r = true := HENDT.out HQ.out HB0.out (fun i hi => HOKS.out i (by omega))
      subst hR
      go_wp2_with fail
      go_ret
      exact ⟨rfl, HF0.out.and HF.out (by simp)⟩
    have h37 := HF.out.cell H37.out (by simp)
    obtain ⟨ad, v, hA, hv, hcl, hok, hcells⟩ := HX.out.l.at (i := k) (by rw [HNN.out]; exact hkn)
    rw [HAA.out] at hA
    subst hA
    have HCELLS := Lib.hid (fun j u (hj : v.cells[j]? = some u) => HF.out.cell (hcells j u hj) (by simp))
    have HVL := Lib.hid hcl
    have HOK := Lib.hid hok
    have HV := Lib.hid hv
    have HVA := Lib.hid (stA_of hv)
    clear hv hcl hok hcells
    go_upto_region 6 with (first
      | (refine wpList_cells rfl 45 _ rfl _ rfl v.cells HCELLS.out (row_stamp.of HVL.out) ?_)
      | (refine wpList_store_blk rfl 45 _ _ rfl wr.heap.size v.cells.toArray rfl rfl 45 zStc.cells.toArray (Blk.new wr _ _) (st_size HOK.out.h) (by rw [List.size_toArray, List.size_toArray, zStc_len, HVL.out]) v.all ?_; intro w1 hb1 hf1))
    simp only [Act.put]
    have hFA : Fr [wr.heap.size] wr w1 := ((Fr.refl [] wr).alloc (Obj.cells zStc.cells.toArray 45)).mono (T := [wr.heap.size]) (by simp) |>.trans hf1 (fun _ h _ => h)
    have HFA : Hid (Fr [] wa w1) := Lib.hid (HF.out.and hFA (by have := HF.out.size; simpa using this))
    have HVT := Lib.hid (Wst.at_of (by simpa using hb1.range) HOK.out.h)
    have h37 := HFA.out.cell H37.out (by simp)
    have hb1lt : wr.heap.size < w1.heap.size := hb1.lt
    have HSZ := Lib.hid hb1lt
    clear hb1 hf1 hFA hb1lt
    obtain ⟨gs, hgs⟩ : ∃ gs, gs = wr.heap.size := ⟨_, rfl⟩
    rw [← hgs] at HVT HSZ ⊢
    clear hgs
    go_cut [44] (fun s wx => ∃ B : Bool, s = .bool B ∧ Hid (B = !(decide (k = 0) || decide ((stA x.l (k - 1)).r < v.r))) ∧ Hid (Fr [] w1 wx))
    case first =>
      rename_i J K2 hJ hK2
      rcases Nat.eq_zero_or_pos k with hk0 | hk0
      · subst hk0
        refine wp_region_held_drew (S := Fr [] w1) (by kernel_rfl) (Fr.drew (Fr.refl _ w1)) (fun hHeld => ?_)
        refine run_at (i := 0) (v := ?_) rfl (by kernel_rfl) (by rfl) (fun _ _ _ h => h) hHeld (fun w1 hw1 => ?_) ?_
        rotate_left 1
        · skip
          go_simp
          (try (first | with_reducible rfl | (apply And.intro <;> rfl)))
        simp only [Act.put, List.setIfInBounds_toArray, List.set_cons_zero, List.set_cons_succ]
        refine run_at (i := 1) (v := ?_) rfl (by kernel_rfl) (by rfl) (fun _ _ _ h => h) hHeld (fun w1 hw1 => ?_) ?_
        rotate_left 1
        · skip
          go_simp
          (try (first | with_reducible rfl | (apply And.intro <;> rfl)))
        simp only [Act.put, List.setIfInBounds_toArray, List.set_cons_zero, List.set_cons_succ]
        refine run_at (i := 2) (v := ?_) rfl (by kernel_rfl) (by rfl) (fun _ _ _ h => h) hHeld (fun w1 hw1 => ?_) ?_
        rotate_left 1
        · skip
          go_simp
          (try (first | with_reducible rfl | (apply And.intro <;> rfl)))
        simp only [Act.put, List.setIfInBounds_toArray, List.set_cons_zero, List.set_cons_succ]
        refine skip_at (i := 3) rfl (by kernel_rfl) (fun _ _ _ h => h) (by kernel_rfl) hHeld ?_
        simp only [Act.put, List.setIfInBounds_toArray, List.set_cons_zero, List.set_cons_succ]
        refine skip_at (i := 4) rfl (by kernel_rfl) (fun _ _ _ h => h) (by kernel_rfl) hHeld ?_
        simp only [Act.put, List.setIfInBounds_toArray, List.set_cons_zero, List.set_cons_succ]
        refine skip_at (i := 5) rfl (by kernel_rfl) (fun _ _ _ h => h) (by kernel_rfl) hHeld ?_
        simp only [Act.put, List.setIfInBounds_toArray, List.set_cons_zero, List.set_cons_succ]
        refine skip_at (i := 6) rfl (by kernel_rfl) (fun _ _ _ h => h) (by kernel_rfl) hHeld ?_
        simp only [Act.put, List.setIfInBounds_toArray, List.set_cons_zero, List.set_cons_succ]
        refine skip_at (i := 7) rfl (by kernel_rfl) (fun _ _ _ h => h) (by kernel_rfl) hHeld ?_
        simp only [Act.put, List.setIfInBounds_toArray, List.set_cons_zero, List.set_cons_succ]
        refine skip_at (i := 8) rfl (by kernel_rfl) (fun _ _ _ h => h) (by kernel_rfl) hHeld ?_
        simp only [Act.put, List.setIfInBounds_toArray, List.set_cons_zero, List.set_cons_succ]
        refine skip_at (i := 9) rfl (by kernel_rfl) (fun _ _ _ h => h) (by kernel_rfl) hHeld ?_
        simp only [Act.put, List.setIfInBounds_toArray, List.set_cons_zero, List.set_cons_succ]
        refine skip_at (i := 10) rfl (by kernel_rfl) (fun _ _ _ h => h) (by kernel_rfl) hHeld ?_
        simp only [Act.put, List.setIfInBounds_toArray, List.set_cons_zero, List.set_cons_succ]
        refine skip_at (i := 11) rfl (by kernel_rfl) (fun _ _ _ h => h) (by kernel_rfl) hHeld ?_
        simp only [Act.put, List.setIfInBounds_toArray, List.set_cons_zero, List.set_cons_succ]
        refine skip_at (i := 12) rfl (by kernel_rfl) (fun _ _ _ h => h) (by kernel_rfl) hHeld ?_
        simp only [Act.put, List.setIfInBounds_toArray, List.set_cons_zero, List.set_cons_succ]
        refine run_at (i := 13) (v := ?_) rfl (by kernel_rfl) (by rfl) (fun _ _ _ h => h) hHeld (fun w1 hw1 => ?_) ?_
        rotate_left 1
        · skip
          go_simp
          (try (first | with_reducible rfl | (apply And.intro <;> rfl)))
        simp only [Act.put, List.setIfInBounds_toArray, List.set_cons_zero, List.set_cons_succ]
        refine wpAnyH_done (by kernel_rfl) ?_ _
        refine hK2 _ _ (Met.intro (hJ _ _ ?_))
        repeat apply Exists.intro
        refine ⟨?_, rfl⟩
        exact ⟨_, rfl, Lib.hid (by simp), Lib.hid hHeld⟩
      · have hk1 : (0 : Int) < (k : Int) := by omega
        have hkq : ∃ q, k = q + 1 := ⟨k - 1, by omega⟩
        obtain ⟨q, rfl⟩ := hkq
        have hpr : w1.cell? (ad.add (q * 38)) = some (.int .i64 (stA x.l q).r) := by
          obtain ⟨ad', u, hA', hu, hcl', hok', hcells'⟩ := HX.out.l.at (i := q) (by rw [HNN.out]; omega)
          rw [HAA.out] at hA'
          injection hA' with hA'
          subst hA'
          rw [stA_of hu]
          exact HFA.out.cell (hcells' 0 _ rfl) (by simp)
        have HPR := Lib.hid hpr
        clear hpr
        have hwq : IntKind.i64.wrap (q : Int) = (q : Int) := by rw [IntKind.wrap_i64]; omega
        have hqn : (q : Int) < (n : Int) := by omega
        have hq0 : (0 : Int) ≤ (q : Int) := by omega
        refine wp_region_held_drew (S := Fr [] w1) (by kernel_rfl) (Fr.drew (Fr.refl _ w1)) (fun hHeld => ?_)
        refine run_at (i := 0) (v := ?_) rfl (by kernel_rfl) (by rfl) (fun _ _ _ h => h) hHeld (fun w1 hw1 => ?_) ?_
        rotate_left 1
        · skip
          go_simp
          (try (first | with_reducible rfl | (apply And.intro <;> rfl)))
        simp only [Act.put, List.setIfInBounds_toArray, List.set_cons_zero, List.set_cons_succ]
        refine run_at (i := 1) (v := ?_) rfl (by kernel_rfl) (by rfl) (fun _ _ _ h => h) hHeld (fun w1 hw1 => ?_) ?_
        rotate_left 1
        · skip
          go_simp
          (try (first | with_reducible rfl | (apply And.intro <;> rfl)))
        simp only [Act.put, List.setIfInBounds_toArray, List.set_cons_zero, List.set_cons_succ]
        refine run_at (i := 2) (v := ?_) rfl (by kernel_rfl) (by rfl) (fun _ _ _ h => h) hHeld (fun w1 hw1 => ?_) ?_
        rotate_left 1
        · skip
          go_simp
          (try (first | with_reducible rfl | (apply And.intro <;> rfl)))
        simp only [Act.put, List.setIfInBounds_toArray, List.set_cons_zero, List.set_cons_succ]
        refine run_at (i := 3) (v := ?_) rfl (by kernel_rfl) (by rfl) (fun _ _ _ h => h) hHeld (fun w1 hw1 => ?_) ?_
        rotate_left 1
        · skip
          go_simp
          (try (first | with_reducible rfl | (apply And.intro <;> rfl)))
        simp only [Act.put, List.setIfInBounds_toArray, List.set_cons_zero, List.set_cons_succ]
        refine run_at (i := 4) (v := ?_) rfl (by kernel_rfl) (by rfl) (fun _ _ _ h => h) hHeld (fun w1 hw1 => ?_) ?_
        rotate_left 1
        · skip
          have hcw0 := hw1.cell (HVT.out.r) (by first | (simp; done) | exact HNS.out | exact HNW.out | (intro hm; have hlt := HSB.out _ hm; (try dsimp only at hlt); omega))
          go_simp
          (try (first | with_reducible rfl | (apply And.intro <;> rfl)))
        simp only [Act.put, List.setIfInBounds_toArray, List.set_cons_zero, List.set_cons_succ]
        refine run_at (i := 5) (v := ?_) rfl (by kernel_rfl) (by rfl) (fun _ _ _ h => h) hHeld (fun w1 hw1 => ?_) ?_
        rotate_left 1
        · skip
          go_simp
          (try (first | with_reducible rfl | (apply And.intro <;> rfl)))
        simp only [Act.put, List.setIfInBounds_toArray, List.set_cons_zero, List.set_cons_succ]
        refine run_at (i := 6) (v := ?_) rfl (by kernel_rfl) (by rfl) (fun _ _ _ h => h) hHeld (fun w1 hw1 => ?_) ?_
        rotate_left 1
        · skip
          have hcw0 := hw1.cell (HFA.out.cell H37.out (by simp)) (by first | (simp; done) | exact HNS.out | exact HNW.out | (intro hm; have hlt := HSB.out _ hm; (try dsimp only at hlt); omega))
          go_simp
          (try (first | with_reducible rfl | (apply And.intro <;> rfl)))
        simp only [Act.put, List.setIfInBounds_toArray, List.set_cons_zero, List.set_cons_succ]
        refine run_at (i := 7) (v := ?_) rfl (by kernel_rfl) (by rfl) (fun _ _ _ h => h) hHeld (fun w1 hw1 => ?_) ?_
        rotate_left 1
        · skip
          go_simp
          (try (first | with_reducible rfl | (apply And.intro <;> rfl)))
        simp only [Act.put, List.setIfInBounds_toArray, List.set_cons_zero, List.set_cons_succ]
        refine run_at (i := 8) (v := ?_) rfl (by kernel_rfl) (by rfl) (fun _ _ _ h => h) hHeld (fun w1 hw1 => ?_) ?_
        rotate_left 1
        · skip
          go_simp
          (try (first | with_reducible rfl | (apply And.intro <;> rfl)))
        simp only [Act.put, List.setIfInBounds_toArray, List.set_cons_zero, List.set_cons_succ]
        refine run_at (i := 9) (v := ?_) rfl (by kernel_rfl) (by rfl) (fun _ _ _ h => h) hHeld (fun w1 hw1 => ?_) ?_
        rotate_left 1
        · skip
          go_simp
          (try (first | with_reducible rfl | (apply And.intro <;> rfl)))
        simp only [Act.put, List.setIfInBounds_toArray, List.set_cons_zero, List.set_cons_succ]
        refine run_at (i := 10) (v := ?_) rfl (by kernel_rfl) (by rfl) (fun _ _ _ h => h) hHeld (fun w1 hw1 => ?_) ?_
        rotate_left 1
        · skip
          go_simp
          (try (first | with_reducible rfl | (apply And.intro <;> rfl)))
        simp only [Act.put, List.setIfInBounds_toArray, List.set_cons_zero, List.set_cons_succ]
        refine run_at (i := 11) (v := ?_) rfl (by kernel_rfl) (by rfl) (fun _ _ _ h => h) hHeld (fun w1 hw1 => ?_) ?_
        rotate_left 1
        · skip
          have hcw0 := hw1.cell (HPR.out) (by first | (simp; done) | exact HNS.out | exact HNW.out | (intro hm; have hlt := HSB.out _ hm; (try dsimp only at hlt); omega))
          go_simp
          (try (first | with_reducible rfl | (apply And.intro <;> rfl)))
        simp only [Act.put, List.setIfInBounds_toArray, List.set_cons_zero, List.set_cons_succ]
        refine run_at (i := 12) (v := ?_) rfl (by kernel_rfl) (by rfl) (fun _ _ _ h => h) hHeld (fun w1 hw1 => ?_) ?_
        rotate_left 1
        · skip
          go_simp
          (try (first | with_reducible rfl | (apply And.intro <;> rfl)))
        simp only [Act.put, List.setIfInBounds_toArray, List.set_cons_zero, List.set_cons_succ]
        refine run_at (i := 13) (v := ?_) rfl (by kernel_rfl) (by rfl) (fun _ _ _ h => h) hHeld (fun w1 hw1 => ?_) ?_
        rotate_left 1
        · skip
          go_simp
          (try (first | with_reducible rfl | (apply And.intro <;> rfl)))
        simp only [Act.put, List.setIfInBounds_toArray, List.set_cons_zero, List.set_cons_succ]
        refine wpAnyH_done (by kernel_rfl) ?_ _
        refine hK2 _ _ (Met.intro (hJ _ _ ?_))
        repeat apply Exists.intro
        refine ⟨?_, rfl⟩
        exact ⟨_, rfl, Lib.hid (by by_cases h : (stA x.l q).r < v.r <;> simp [h] <;> omega), Lib.hid hHeld⟩
    case rest =>
    obtain ⟨B, rfl, HBB, HF2⟩ := hcut
    rename World => w2
    cases B
    case true =>
      have HR : Hid (r = false) := Lib.hid (HSTOP.out k hkn (by
        have h := HBB.out
        unfold okAt
        rw [HVA.out]
        rw [not_f h]
        rfl))
      go_wp2_with fail
      go_ret
      exact ⟨by rw [HR.out]; rfl, (HF0.out.and HFA.out (by simp)).and HF2.out (by simp)⟩
    have HFB : Hid (Fr [] wa w2) := Lib.hid (HFA.out.trans HF2.out (by simp))
    have HVT2 := Lib.hid (HVT.out.keep HF2.out (by simp))
    have hio := isof_any v x.k HOK.out HX.out.k v.cells x.k.cells rfl rfl w2
    cases hO : ofB v x.k
    case false =>
      rw [hO] at hio
      have HR : Hid (r = false) := Lib.hid (HSTOP.out k hkn (by unfold okAt; rw [HVA.out, hO]; simp))
      go_wp2_with (first
        | (refine wpList_midg rfl 45 _ rfl gs 0 rfl v.cells HVT2.out.all (row_stamp.of HVL.out) ?_)
        | (refine wpList_midg rfl 39 _ rfl (w.heap.size + 1) 0 rfl x.k.cells (HFB.out.range HCM.out (by simp)) (row_cmt.of HCL.out) ?_)
        | (refine wpList_midg rfl 27 _ rfl w.heap.size 0 rfl _ (HFB.out.range HCF.out (by simp)) row_conf ?_))
      refine hio.mono ?_
      rintro e w3 ⟨rfl, hf3⟩
      have HF3 := Lib.hid (HFB.out.trans hf3 (by simp))
      clear hf3 hio
      go_wp2_with fail
      go_ret
      exact ⟨by rw [HR.out]; rfl, HF0.out.and HF3.out (by simp)⟩
    rw [hO] at hio
    go_wp2_with (first
      | (refine wpList_midg rfl 45 _ rfl gs 0 rfl v.cells HVT2.out.all (row_stamp.of HVL.out) ?_)
      | (refine wpList_midg rfl 39 _ rfl (w.heap.size + 1) 0 rfl x.k.cells (HFB.out.range HCM.out (by simp)) (row_cmt.of HCL.out) ?_)
      | (refine wpList_midg rfl 27 _ rfl w.heap.size 0 rfl _ (HFB.out.range HCF.out (by simp)) row_conf ?_))
    refine hio.mono ?_
    rintro e w3 ⟨rfl, hf3⟩
    have HF3 := Lib.hid (HFB.out.trans hf3 (by simp))
    have HVT3 := Lib.hid (HVT2.out.keep hf3 (by simp))
    clear hf3 hio
    have hst := rstamp_any F K v HOK.out w3 Sb gb l (HBK.out.keep HF3.out (by simp))
    unfold Wst.val at hst
    cases hS : stampB F l v
    case false =>
      rw [hS] at hst
      have HR : Hid (r = false) := Lib.hid (HSTOP.out k hkn (by unfold okAt; rw [HVA.out, hO, hS]; simp))
      go_wp2_with (first
        | (refine wpList_midg rfl 45 _ rfl gs 0 rfl v.cells HVT3.out.all (row_stamp.of HVL.out) ?_)
        | (refine wpList_midg rfl 39 _ rfl (w.heap.size + 1) 0 rfl x.k.cells (HF3.out.range HCM.out (by simp)) (row_cmt.of HCL.out) ?_)
        | (refine wpList_midg rfl 27 _ rfl w.heap.size 0 rfl _ (HF3.out.range HCF.out (by simp)) row_conf ?_))
      refine hst.mono ?_
      rintro e w4 ⟨rfl, hf4⟩
      have HF4 := Lib.hid (HF3.out.trans hf4 (by simp))
      clear hf4 hst
      go_wp2_with fail
      go_ret
      exact ⟨by rw [HR.out]; rfl, HF0.out.and HF4.out (by simp)⟩
    rw [hS] at hst
    have HOKN : Hid (∀ j, j < k + 1 → okAt F l x.k x.l j = true) := Lib.hid (fun j hj => by
      rcases Nat.lt_or_ge j k with h | h
      · exact HOKS.out j h
      · have hjk : j = k := by omega
        subst hjk
        have h := HBB.out
        unfold okAt
        rw [HVA.out, hO, hS, not_t h]
        rfl)
    go_wp2_with (first
      | (refine wpList_midg rfl 45 _ rfl gs 0 rfl v.cells HVT3.out.all (row_stamp.of HVL.out) ?_)
      | (refine wpList_midg rfl 39 _ rfl (w.heap.size + 1) 0 rfl x.k.cells (HF3.out.range HCM.out (by simp)) (row_cmt.of HCL.out) ?_)
      | (refine wpList_midg rfl 27 _ rfl w.heap.size 0 rfl _ (HF3.out.range HCF.out (by simp)) row_conf ?_))
    refine hst.mono ?_
    rintro e w4 ⟨rfl, hf4⟩
    have HF4 := Lib.hid (HF3.out.trans hf4 (by simp))
    clear hf4 hst
    go_wp2_with fail
    go_roundw
    case rel => exact ⟨k + 1, by omega, by go_num, HOKN, HF4⟩
    case measure => simp [intOf]; omega
end Go.Proofs.Ytlkhfhhaallhgaa

namespace Go.Proofs.Ytlkhfhhaallhgaa
open Go.RowKit
set_option maxRecDepth 100000
end Go.Proofs.Ytlkhfhhaallhgaa

namespace Go.Proofs.Ytlkhfhhaallhgaa
end Go.Proofs.Ytlkhfhhaallhgaa

namespace Go.Proofs.Ytlkhfhhaallhgaa
open Go.RowKit
set_option maxRecDepth 100000

theorem made_ok (c s : Int) (hc : 0 ≤ c ∧ c < 1099511627776) (hs : i64In s) (h b : List UInt8) (hb : b.length ≤ 1000000) (l : List Ent) (hl : l.length < 1048576) : (made c s h b l).Ok := by
  refine ⟨⟨by show _ ≤ c; omega, by show c < _; omega⟩, hs, sumL_len _, ⟨by show _ ≤ ((b.length : Nat) : Int); omega, by show ((b.length : Nat) : Int) < _; omega⟩, ⟨by show _ ≤ 1000 + c; omega, by show 1000 + c < _; omega⟩, ?_⟩
  show i64In (mrk _ _)
  unfold mrk i64In
  have h1 : List.idxOf (1000 + c, (made0 c s h b).text) (sgn l (1000 + c, (made0 c s h b).text)) ≤ (sgn l (1000 + c, (made0 c s h b).text)).length := List.idxOf_le_length
  have h2 : (sgn l (1000 + c, (made0 c s h b).text)).length ≤ l.length + 1 := by unfold sgn; split <;> simp
  omega
theorem made_right (c s : Int) (hc : 0 ≤ c) (h b : List UInt8) (l : List Ent) (k : Int) (hk : c < k) (hs : 1 ≤ s ∧ s ≤ 1048576) (hb : b.length ≤ 256) :
    rightC k (sgn l (1000 + c, (made0 c s h b).text)) (made c s h b l) = true := by
  unfold rightC
  have h1 : validB k (made c s h b l) = true := by
    unfold validB
    simp only [decide_eq_true_eq]
    exact ⟨hc, hk, hs.1, hs.2, by show (0 : Int) ≤ ((b.length : Nat) : Int); omega, by show ((b.length : Nat) : Int) ≤ 256; omega⟩
  have h2 : signB (made c s h b l).b (made c s h b l).c = true := by
    unfold signB
    simp only [decide_eq_true_eq]
    exact ⟨by show 1000 ≤ 1000 + c; omega, by show 1000 + c - 1000 = c; omega⟩
  rw [h1, h2, made_text]
  exact rightB_sgn l (1000 + c) (made0 c s h b).text

end Go.Proofs.Ytlkhfhhaallhgaa

namespace Go.Proofs.Ytlkhfhhaallhgaa
open Go.RowKit
set_option maxRecDepth 100000

def hzC : List UInt8 := List.replicate 32 0
theorem built_hC : Try.prog.built 35 [] = some (hzC.map by8).toArray := by kernel_rfl
/-- both books hold the same signatures -/
structure BB (w : World) (Sb : List Nat) (gb : Nat) (Sr : List Nat) (gr : Nat) (l : List Ent) : Prop where
  b : Bok w Sb gb l
  r : RBk w Sr gr l
  nd : l.Nodup
  d : ∀ k ∈ Sr, ¬ k ∈ Sb
theorem BB.keep {w w' : World} {Sb Sr T : List Nat} {gb gr : Nat} {l : List Ent} (h : BB w Sb gb Sr gr l) (hf : Fr T w w') (hb : ∀ k ∈ Sb, ¬ k ∈ T) (hr : ∀ k ∈ Sr, ¬ k ∈ T) : BB w' Sb gb Sr gr l := ⟨h.b.keep hf hb, h.r.keep hf hr, h.nd, h.d⟩
theorem sgn_ndC {l : List Ent} {e : Ent} (h : l.Nodup) : (sgn l e).Nodup := by
  unfold sgn
  split
  · exact h
  · rename_i hn
    rw [List.nodup_append]
    exact ⟨h, by simp, fun a ha b hb => by simp at hb; subst hb; exact fun e => hn (e ▸ ha)⟩
theorem sgn_lenC (l : List Ent) (e : Ent) : (sgn l e).length ≤ l.length + 1 := by unfold sgn; split <;> simp
set_option maxHeartbeats 4000000 in
theorem bkCommit_any (C S : Int) (hc : 0 ≤ C ∧ C < 1099511627776) (hs : i64In S) (A : Option Addr) (n cap : Nat) (p : List UInt8) (w : World) (hp : By w A n p) (hA : ∀ k ∈ bk A, k < w.heap.size) (hn : n ≤ 1000)
    (Sb : List Nat) (gb : Nat) (Sr : List Nat) (gr : Nat) (l : List Ent) (hB : BB w Sb gb Sr gr l) (hl : l.length < 1048576) :
    Calls Try.prog 8 #[.agg #[.pointer (some ⟨gb, 0, none⟩), .pointer (some ⟨gr, 0, none⟩)], .agg #[.int .i64 C, .int .i64 S], .slice A n cap] w fun e w' => e = .returned (made C S hzC p l).val ∧
      ∃ Sr', BB w' Sb gb Sr' gr (sgn l (1000 + C, (made C S hzC p l).text)) ∧ Fr (Sb ++ Sr) w w' ∧ ∀ y ∈ Sr', y < w.heap.size → y ∈ Sr := by
  obtain ⟨wa, hwa⟩ : ∃ wa, wa = ((w.alloc (Obj.cells #[.pointer (some ⟨gb, 0, none⟩), .pointer (some ⟨gr, 0, none⟩)] 31)).alloc (Obj.cells #[.int .i64 C, .int .i64 S] 23)).alloc (Obj.cells zeroCm 39) := ⟨_, rfl⟩
  have hf0 : Fr [] w wa := by rw [hwa]; exact (((Fr.refl [] w).alloc _).alloc _).alloc _
  have hb1 : Blk wa w.heap.size 31 #[.pointer (some ⟨gb, 0, none⟩), .pointer (some ⟨gr, 0, none⟩)] := by rw [hwa]; exact blk_alloc (blk_alloc (Blk.new _ _ _))
  have hb2 : Blk wa (w.heap.size + 1) 23 #[.int .i64 C, .int .i64 S] := by
    have := blk_alloc (t' := 39) (cs' := zeroCm) (Blk.new (w.alloc (Obj.cells #[.pointer (some ⟨gb, 0, none⟩), .pointer (some ⟨gr, 0, none⟩)] 31)) 23 #[.int .i64 C, .int .i64 S])
    rw [hwa]
    simpa using this
  have hb3 : Blk wa (w.heap.size + 2) 39 zeroCm := by
    have := Blk.new ((w.alloc (Obj.cells #[.pointer (some ⟨gb, 0, none⟩), .pointer (some ⟨gr, 0, none⟩)] 31)).alloc (Obj.cells #[.int .i64 C, .int .i64 S] 23)) 39 zeroCm
    rw [hwa]
    simpa using this
  have hcp : wa.cell? ⟨w.heap.size, 1, none⟩ = some (.pointer (some ⟨gr, 0, none⟩)) := hb1.cell 1
  have HCP0 : Hid (wa.cell? ⟨w.heap.size, 0, none⟩ = some (.pointer (some ⟨gb, 0, none⟩))) := Lib.hid (hb1.cell 0)
  have HCC : Hid (wa.cell? ⟨w.heap.size + 1, 0, none⟩ = some (.int .i64 C)) := Lib.hid (hb2.cell 0)
  have HR2 := Lib.hid hb2.range
  have HB3 := Lib.hid hb3
  have HF0 := Lib.hid hf0
  have HWA := Lib.hid hwa
  have HSBw : Hid (∀ k ∈ Sb, k < w.heap.size) := Lib.hid hB.b.lt
  have HSRw : Hid (∀ k ∈ Sr, k < w.heap.size) := Lib.hid hB.r.lt
  have HDD := Lib.hid hB.d
  have HND := Lib.hid hB.nd
  have HBK := Lib.hid (hB.b.keep hf0 (by simp))
  have hmk := refmake_any C S hc hs hzC rfl A n cap p wa (hp.keep hf0 (by simp)) (fun k hk => by have := hA k hk; have := hf0.size; omega) hn Sr gr l (hB.r.keep hf0 (by simp)) hB.nd hl
  have hzok := made_ok C S hc hs hzC p (by have := hp.1; omega) l hl
  have hzb : (made C S hzC p l).b = 1000 + C := rfl
  have hzm : (made C S hzC p l).m = mrk (sgn l (1000 + C, (made C S hzC p l).text)) (1000 + C, (made C S hzC p l).text) := rfl
  rw [show (made0 C S hzC p).text = (made C S hzC p l).text from rfl] at hmk
  generalize made C S hzC p l = z at *
  have HCL := Lib.hid (Cm.len hzok.h)
  have HONE := Lib.hid z.one
  have HZOK := Lib.hid hzok
  have HZB := Lib.hid hzb
  have HZM := Lib.hid hzm
  have HMK := Lib.hid hmk
  have HC := Lib.hid hc
  have HL := Lib.hid hl
  have HSZ : Hid (w.heap.size + 2 < wa.heap.size) := Lib.hid hb3.lt
  clear hwa hf0 hb1 hb2 hb3 hp hA hn hB hmk hzok hzb hzm hc hs hl
  go_enter Try.func8, Try.ntmps8
  go_upto_region 1 with (fail)
  change Code.wp _ _ _ _ (((w.alloc (Obj.cells #[.pointer (some ⟨gb, 0, none⟩), .pointer (some ⟨gr, 0, none⟩)] 31)).alloc (Obj.cells #[.int .i64 C, .int .i64 S] 23)).alloc (Obj.cells zeroCm 39))
  rw [← HWA.out]
  go_upto_region 2 with (first
    | (refine wpList_row rfl 23 _ rfl _ _ rfl _ HR2.out row_name ?_)
    | (refine wpList_builtg rfl 35 _ rfl _ _ built_hC rfl ?_)
    | (go_at_call 19
       refine HMK.out.mono ?_
       rintro e_ w1 ⟨rfl, S1, hr1, hf1, hs1⟩
       have HR1 := Lib.hid hr1
       have HF1 := Lib.hid hf1
       have HS1 := Lib.hid hs1
       clear hr1 hf1 hs1)
    | (refine wpList_store_box rfl 39 _ _ rfl zeroCm 39 z.cells rfl rfl (by rw [HCL.out]; kernel_rfl) (by rw [HCL.out]; rfl) HONE.out ?_
       intro w3 hb7 hf7
       have HX3 := Lib.hid hb7
       have HF3 := Lib.hid hf7
       clear hb7 hf7))
  simp only [Act.put]
  generalize hg : w1.heap.size = g7 at *
  have HR1L : Hid (∀ k ∈ S1, k < g7) := Lib.hid (fun k hk => by have := HR1.out.lt k hk; omega)
  have HLT7 : Hid (w.heap.size + 2 < g7 ∧ g7 < w3.heap.size) := Lib.hid ⟨by have := HF1.out.size; have := HSZ.out; omega, HX3.out.lt⟩
  clear hg hcp
  obtain ⟨X, hX⟩ : ∃ X, z.text = X := ⟨_, rfl⟩
  obtain ⟨l2, hl2⟩ : ∃ l2, sgn l (1000 + C, X) = l2 := ⟨_, rfl⟩
  rw [hX] at HZM HR1
  rw [hl2] at HZM HR1
  have HND2 : Hid l2.Nodup := Lib.hid (by rw [← hl2]; exact sgn_ndC HND.out)
  have HXX := Lib.hid hX
  have HL2 := Lib.hid hl2
  clear hX hl2
  have HFR := Lib.hid (HF1.out.trans HF3.out (by simp))
  have HAT := Lib.hid (Cm.at_blk HX3.out HZOK.out.h)
  have HBK3 : Hid (Bok w3 Sb gb l) := Lib.hid (HBK.out.keep HFR.out (fun k hk hm => HDD.out k hm hk))
  have hwr : IntKind.i64.wrap (1000 + C) = 1000 + C := IntWalk.i64_in _ (by have := HC.out; omega)
  have HNS : Hid (¬ w.heap.size + 1 ∈ g7 :: Sb) := Lib.hid (fun hm => by
    rcases List.mem_cons.1 hm with hm | hm
    · have := HLT7.out; omega
    · have := HSBw.out _ hm; omega)
  have HNW : Hid (¬ w.heap.size ∈ g7 :: Sb) := Lib.hid (fun hm => by
    rcases List.mem_cons.1 hm with hm | hm
    · have := HLT7.out; omega
    · have := HSBw.out _ hm; omega)
  have HNG : Hid (¬ g7 ∈ Sb) := Lib.hid (fun hm => by have := HSBw.out _ hm; have := HLT7.out; omega)
  have HP0 := Lib.hid (HFR.out.cell HCP0.out (fun hm => by have := HSRw.out _ hm; simp at this))
  have HCC3 := Lib.hid (HFR.out.cell HCC.out (fun hm => by have := HSRw.out _ hm; simp at this; omega))
  have HT := Lib.hid (fun W => reftext_any z HZOK.out W)
  have HTL := Lib.hid (z.text_len HZOK.out)
  unfold Cm.val at HT
  refine wp_region_held_drew (S := Fr (g7 :: Sb) w3) (by kernel_rfl) (Fr.drew (Fr.refl _ w3)) (fun hHeld => ?_)
  refine run_at (i := 0) (v := ?_) rfl (by kernel_rfl) (by rfl) (fun _ _ _ h => h) hHeld (fun w1 hw1 => ?_) ?_
  rotate_left 1
  · skip
    go_simp
    (try (first | with_reducible rfl | (apply And.intro <;> rfl)))
  simp only [Act.put, List.setIfInBounds_toArray, List.set_cons_zero, List.set_cons_succ]
  refine run_at (i := 1) (v := ?_) rfl (by kernel_rfl) (by rfl) (fun _ _ _ h => h) hHeld (fun w1 hw1 => ?_) ?_
  rotate_left 1
  · skip
    have hcw0 := hw1.cell (HP0.out) (by first | (simp; done) | exact HNS.out | exact HNW.out | (intro hm; have hlt := HSB.out _ hm; (try dsimp only at hlt); omega))
    go_simp
    (try (first | with_reducible rfl | (apply And.intro <;> rfl)))
  simp only [Act.put, List.setIfInBounds_toArray, List.set_cons_zero, List.set_cons_succ]
  refine run_at (i := 2) (v := ?_) rfl (by kernel_rfl) (by rfl) (fun _ _ _ h => h) hHeld (fun w1 hw1 => ?_) ?_
  rotate_left 1
  · skip
    go_simp
    (try (first | with_reducible rfl | (apply And.intro <;> rfl)))
  simp only [Act.put, List.setIfInBounds_toArray, List.set_cons_zero, List.set_cons_succ]
  refine run_at (i := 3) (v := ?_) rfl (by kernel_rfl) (by rfl) (fun _ _ _ h => h) hHeld (fun w1 hw1 => ?_) ?_
  rotate_left 1
  · skip
    have hcw0 := hw1.cell (HCC3.out) (by first | (simp; done) | exact HNS.out | exact HNW.out | (intro hm; have hlt := HSB.out _ hm; (try dsimp only at hlt); omega))
    go_simp
    (try (first | with_reducible rfl | (apply And.intro <;> rfl)))
  simp only [Act.put, List.setIfInBounds_toArray, List.set_cons_zero, List.set_cons_succ]
  refine run_at (i := 4) (v := ?_) rfl (by kernel_rfl) (by rfl) (fun _ _ _ h => h) hHeld (fun w1 hw1 => ?_) ?_
  rotate_left 1
  · skip
    go_simp
    (try (first | with_reducible rfl | (apply And.intro <;> rfl)))
  simp only [Act.put, List.setIfInBounds_toArray, List.set_cons_zero, List.set_cons_succ]
  refine step_at (i := 5) rfl (by kernel_rfl) (by rfl) (fun K hK => ?_)
  refine wp_row _ _ rfl _ _ rfl _ (HAT.out.all) (row_commit.of HCL.out) ?_
  refine hK.out _ _ hHeld (fun hHeld => ?_)
  clear hK K
  simp only [Act.put, List.setIfInBounds_toArray, List.set_cons_zero, List.set_cons_succ]
  refine call_at (i := 6) (f := ?_) (args := ?_) rfl (by kernel_rfl) (by rfl) ?_ ?_
  rotate_left 2
  · go_simp
    (try (first | with_reducible rfl | (apply And.intro <;> rfl)))
  have h := HT.out w3.drew
  have HSG := Lib.hid (fun W (hW : Fr [] w3 W) A' n' c' (hy : By W A' n' X) (hn : n' ≤ maxLen) => sign_any W Sb gb l (HBK3.out.keep hW (by simp)) (1000 + C) (wf_i64 ⟨by have := HC.out; omega, by have := HC.out; omega⟩) A' n' c' X hy hn (by have := HL.out; omega))
  rw [HXX.out] at h HTL
  refine h.mono ?_
  rintro e w4 ⟨A4, c4, rfl, hn4⟩
  have HF4 : Hid (Fr [] w3 w4) := Lib.hid ((Fr.drew (Fr.refl [] w3)).and hn4.2.1 (by simp))
  refine ⟨_, rfl, HF4.out.mono (by simp), fun hHeld => ?_⟩
  have HN4 := Lib.hid hn4
  clear hn4 h
  simp only [Act.put, List.setIfInBounds_toArray, List.set_cons_zero, List.set_cons_succ]
  refine call_at (i := 7) (f := ?_) (args := ?_) rfl (by kernel_rfl) (by rfl) ?_ ?_
  rotate_left 2
  · go_simp
    (try (first | with_reducible rfl | (apply And.intro <;> rfl)))
  have h := HSG.out w4 HF4.out A4 _ c4 HN4.out.by (by have := HTL.out; unfold maxLen; omega)
  rw [HL2.out, ← HZM.out] at h
  refine h.mono ?_
  rintro e w5 ⟨rfl, hb5, hf5⟩
  refine ⟨_, rfl, hHeld.trans hf5 (fun x hx _ => List.mem_cons_of_mem _ hx), fun hHeld => ?_⟩
  have HB5 := Lib.hid hb5
  have HF5 := Lib.hid (HF4.out.mono (T := Sb) (by simp) |>.trans hf5 (fun x hx _ => hx))
  have HX5 := Lib.hid (HX3.out.keep HF5.out HNG.out)
  clear hb5 hf5 HN4 h
  simp only [Act.put, List.setIfInBounds_toArray, List.set_cons_zero, List.set_cons_succ]
  refine run_at (i := 8) (v := ?_) rfl (by kernel_rfl) (by rfl) (fun _ _ _ h => h) hHeld (fun w1 hw1 => ?_) ?_
  rotate_left 1
  · skip
    go_simp
    (try (first | with_reducible rfl | (apply And.intro <;> rfl)))
  simp only [Act.put, List.setIfInBounds_toArray, List.set_cons_zero, List.set_cons_succ]
  refine step_at (i := 9) rfl (by kernel_rfl) (by rfl) (fun K hK => ?_)
  refine wp_store_mid 37 _ _ rfl g7 35 #[.int .i64 (1000 + C), .int .i64 z.m] rfl rfl (HX5.out.there 35 2 (by rw [List.size_toArray, HCL.out]; omega)) (by kernel_rfl) (by kernel_rfl) ?_
  have hb6 := (HX5.out.set 35 (.int .i64 (1000 + C))).set 36 (.int .i64 z.m)
  rw [show z.cells.toArray = (Cm.cells ⟨z.c, z.s, z.h, z.n, z.b, z.m⟩).toArray from rfl, cells_sig _ _ _ _ _ _ _ _ HZOK.out.h, show (⟨z.c, z.s, z.h, z.n, 1000 + C, z.m⟩ : Cm) = z by rw [← HZB.out]] at hb6
  have hf6 : Fr [g7] w5 ((w5.setCell ⟨g7, 35, none⟩ (.int .i64 (1000 + C))).setCell ⟨g7, 36, none⟩ (.int .i64 z.m)) := ((Fr.refl [g7] w5).setCell _ (fun _ => by simp) _).setCell _ (fun _ => by simp) _
  change K _ ((w5.setCell ⟨g7, 35, none⟩ (.int .i64 (1000 + C))).setCell ⟨g7, 36, none⟩ (.int .i64 z.m))
  generalize (w5.setCell ⟨g7, 35, none⟩ (.int .i64 (1000 + C))).setCell ⟨g7, 36, none⟩ (.int .i64 z.m) = w6 at *
  refine hK.out _ _ (hHeld.trans hf6 (fun x hx _ => by simp at hx; simp [hx])) (fun hHeld => ?_)
  clear hK K
  simp only [Act.put, List.setIfInBounds_toArray, List.set_cons_zero, List.set_cons_succ]
  refine wpAnyH_done (by kernel_rfl) ?_ _
  have HB6 := Lib.hid hb6
  have HBK6 := Lib.hid (HB5.out.keep hf6 (fun x hx he => HNG.out (by simp at he; rw [← he]; exact hx)))
  have HALL6 := Lib.hid (Cm.all z)
  have HF56 := Lib.hid hf6
  clear hb6 hf6 hHeld
  have HVAL := Lib.hid (show z.val = .agg z.cells.toArray from rfl)
  have HSZD : Hid (z.cells.toArray.size = 37) := Lib.hid (by rw [List.size_toArray]; exact HCL.out)
  generalize z.cells.toArray = D at *
  have HB3r := Lib.hid ((((HB3.out.keep HF1.out (fun hm => by have := HSRw.out _ hm; omega)).keep HF3.out (by simp)).keep HF5.out (fun hm => by have := HSBw.out _ hm; omega)).keep HF56.out (by have := HLT7.out; simp; omega))
  go_wp2_with (first
    | (refine wpList_load_row rfl 39 _ rfl g7 rfl 39 D _ _ HB6.out Try.underlying39 rfl (by rw [HSZD.out]; kernel_rfl) ?_)
    | (refine wpList_store_row rfl 39 _ _ rfl (w.heap.size + 2) D rfl rfl 39 zeroCm HB3r.out (by rw [HSZD.out]; kernel_rfl) (by rw [HSZD.out]; rfl) HALL6.out ?_))
  have hgr := setRow_blk HB3r.out D
  have hfr := setRow_fr w6 (w.heap.size + 2) D
  have HS1o := HS1.out
  have hsw := HF0.out.size
  refine bodyPost_ret (v := .agg D) (results_cell_row Try.results8 _ _ (w.heap.size + 2) 39 D _ _ rfl hgr Try.underlying39 rfl (by rw [HSZD.out]; kernel_rfl)) rfl ⟨by rw [HVAL.out], S1, ?q5, ?q4, fun y hy hl => HS1o y hy (by omega)⟩
  case q5 =>
    rw [HXX.out, HL2.out]
    refine ⟨?_, ?_, HND2.out, ?_⟩
    · exact HBK6.out.keep hfr (fun x hx hm => by simp at hm; subst hm; have := HSBw.out _ hx; omega)
    · have hlt := HR1.out.lt
      have h3 := HR1.out.keep HF3.out (by simp)
      have hw1 := HF3.out.size
      have h5 := h3.keep HF5.out (fun x hx hm => HDD.out x (HS1o x hx (by have := HSBw.out _ hm; omega)) hm)
      have h6 := h5.keep HF56.out (fun x hx hm => by simp at hm; subst hm; have := HR1L.out _ hx; omega)
      exact h6.keep hfr (fun x hx hm => by simp at hm; subst hm; by_cases h : w.heap.size + 2 < wa.heap.size; have := HSRw.out _ (HS1o _ hx h); omega; exact h HSZ.out)
    · intro k hk hm
      exact HDD.out k (HS1o k hk (by have := HSBw.out _ hm; omega)) hm
  case q4 =>
    have h1 : Fr (Sb ++ Sr) w wa := HF0.out.mono (by simp)
    have h2 := h1.trans HFR.out (fun x hx _ => List.mem_append.2 (.inr hx))
    have h3 := h2.trans HF5.out (fun x hx _ => List.mem_append.2 (.inl hx))
    have h4 := h3.trans HF56.out (fun x hx hl => by simp at hx; subst hx; have := HLT7.out; omega)
    exact h4.trans hfr (fun x hx hl => by simp at hx; subst hx; omega)
end Go.Proofs.Ytlkhfhhaallhgaa

namespace Go.Proofs.Ytlkhfhhaallhgaa
open Go.RowKit
set_option maxRecDepth 100000

theorem builtC_eq (parts : List (Nat × Value)) : Try.prog.built 45 parts = Instr.fill ([(0, 1), (1, 2), (3, 32), (35, 1), (36, 2)].toArray[·]?) zStc.cells.toArray parts := by kernel_rfl
theorem built_stC (r c s : Int) (h : List UInt8) (t : Nat) (hh : h.length = 32) :
    Try.prog.built 45 [(0, .int .i64 r), (1, .agg #[.int .i64 c, .int .i64 s]), (2, .agg (h.map by8).toArray), (3, .int .u64 (t : Int))] = some (Wst.cells ⟨r, c, s, h, t, 0, 0⟩).toArray := by
  have hz : zStc.cells.toArray.size = 38 := rfl
  rw [builtC_eq, fill_step _ _ 0 0 1 _ _ rfl rfl (by rw [hz]; omega), fill_step _ _ 1 1 2 _ _ rfl rfl (by simp [splice, zStc, Wst.cells, Value.cells]), fill_step _ _ 2 3 32 _ _ rfl (by simp [Value.cells, hh]) (by simp [splice, zStc, Wst.cells, Value.cells]),
    fill_step _ _ 3 35 1 _ _ rfl rfl (by simp [splice, zStc, Wst.cells, Value.cells, hh]), Instr.fill]
  congr 2
  simp [splice, zStc, Wst.cells, Value.cells, hh, List.drop_append]
theorem cells_sigC (r c s b m b' m' : Int) (t : Nat) (h : List UInt8) (hh : h.length = 32) : (((Wst.cells ⟨r, c, s, h, t, b, m⟩).toArray.setIfInBounds 36 (.int .i64 b')).setIfInBounds 37 (.int .i64 m')) = (Wst.cells ⟨r, c, s, h, t, b', m'⟩).toArray := by
  simp [Wst.cells, List.set_append, hh]
theorem row_sigC : RowTy Try.prog 37 2 := ⟨by kernel_rfl, by kernel_rfl⟩
theorem mrk_in {l : List Ent} {e : Ent} (hl : l.length < 1048577) : i64In (mrk (sgn l e) e) := by
  unfold mrk i64In
  have h1 : List.idxOf e (sgn l e) ≤ (sgn l e).length := List.idxOf_le_length
  have h2 := sgn_lenC l e
  omega
theorem z64 : i64In 0 := ⟨by decide, by decide⟩
/-- the stamp of replica r for x, signed -/
def stOf (r : Int) (x : Cm) (t : Nat) (l : List Ent) : Wst := ⟨r, x.c, x.s, x.h, t, r, mrk (sgn l (r, (Wst.mk r x.c x.s x.h t 0 0).text)) (r, (Wst.mk r x.c x.s x.h t 0 0).text)⟩
def bkOf (r : Int) (x : Cm) (t : Nat) (l : List Ent) : List Ent := sgn l (r, (Wst.mk r x.c x.s x.h t 0 0).text)
theorem stOf_ok {r : Int} (hr : i64In r) {x : Cm} (hx : x.Ok) {t : Nat} (ht : t < 18446744073709551616) {l : List Ent} (hl : l.length < 1048577) : (stOf r x t l).Ok := ⟨hr, hx.c, hx.s, hx.h, ht, hr, mrk_in hl⟩
set_option maxHeartbeats 4000000 in
theorem bkStamp_any (r : Int) (hr : i64In r) (x : Cm) (hx : x.Ok) (t : Nat) (ht : t < 18446744073709551616) (w : World)
    (Sb : List Nat) (gb : Nat) (Sr : List Nat) (gr : Nat) (l : List Ent) (hB : BB w Sb gb Sr gr l) (hl : l.length < 1048576) :
    Calls Try.prog 9 #[.agg #[.pointer (some ⟨gb, 0, none⟩), .pointer (some ⟨gr, 0, none⟩)], .int .i64 r, .agg x.cells.toArray, .int .u64 (t : Int)] w fun e w' => e = .returned (stOf r x t l).val ∧
      ∃ Sr', BB w' Sb gb Sr' gr (bkOf r x t l) ∧ Fr (Sb ++ Sr) w w' ∧ ∀ y ∈ Sr', y < w.heap.size → y ∈ Sr := by
  obtain ⟨wa, hwa⟩ : ∃ wa, wa = ((w.alloc (Obj.cells #[.pointer (some ⟨gb, 0, none⟩), .pointer (some ⟨gr, 0, none⟩)] 31)).alloc (Obj.cells x.cells.toArray 39)).alloc (Obj.cells zStc.cells.toArray 45) := ⟨_, rfl⟩
  have hf0 : Fr [] w wa := by rw [hwa]; exact (((Fr.refl [] w).alloc _).alloc _).alloc _
  have hb1 : Blk wa w.heap.size 31 #[.pointer (some ⟨gb, 0, none⟩), .pointer (some ⟨gr, 0, none⟩)] := by rw [hwa]; exact blk_alloc (blk_alloc (Blk.new _ _ _))
  have hb2 : Blk wa (w.heap.size + 1) 39 x.cells.toArray := by
    have := blk_alloc (t' := 45) (cs' := zStc.cells.toArray) (Blk.new (w.alloc (Obj.cells #[.pointer (some ⟨gb, 0, none⟩), .pointer (some ⟨gr, 0, none⟩)] 31)) 39 x.cells.toArray)
    rw [hwa]
    simpa using this
  have hb3 : Blk wa (w.heap.size + 2) 45 zStc.cells.toArray := by
    have := Blk.new ((w.alloc (Obj.cells #[.pointer (some ⟨gb, 0, none⟩), .pointer (some ⟨gr, 0, none⟩)] 31)).alloc (Obj.cells x.cells.toArray 39)) 45 zStc.cells.toArray
    rw [hwa]
    simpa using this
  have HCP0 : Hid (wa.cell? ⟨w.heap.size, 0, none⟩ = some (.pointer (some ⟨gb, 0, none⟩))) := Lib.hid (hb1.cell 0)
  have HCP1 : Hid (wa.cell? ⟨w.heap.size, 1, none⟩ = some (.pointer (some ⟨gr, 0, none⟩))) := Lib.hid (hb1.cell 1)
  have HAX := Lib.hid (Cm.at_blk hb2 hx.h)
  have HB3 := Lib.hid hb3
  have HF0 := Lib.hid hf0
  have HWA := Lib.hid hwa
  have HSB : Hid (∀ k ∈ Sb, k < w.heap.size) := Lib.hid hB.b.lt
  have HSRw : Hid (∀ k ∈ Sr, k < w.heap.size) := Lib.hid hB.r.lt
  have HDD := Lib.hid hB.d
  have HND := Lib.hid hB.nd
  have HBK := Lib.hid (hB.b.keep hf0 (by simp))
  have HRK := Lib.hid (hB.r.keep hf0 (by simp))
  have HRR := Lib.hid hr
  have HSZ : Hid (w.heap.size + 2 < wa.heap.size) := Lib.hid hb3.lt
  have HBLT := Lib.hid (built_stC r x.c x.s x.h t hx.h)
  have HLXH : Hid ((x.h.map by8).length = 32) := Lib.hid (by rw [List.length_map]; exact hx.h)
  have hzok : (stOf r x t l).Ok := stOf_ok hr hx ht (by omega)
  have hz0ok : (Wst.mk r x.c x.s x.h t 0 0).Ok := ⟨hr, hx.c, hx.s, hx.h, ht, z64, z64⟩
  have HTL := Lib.hid (Wst.text_len hz0ok)
  have HT0 := Lib.hid (fun W => refstampText_any (Wst.mk r x.c x.s x.h t 0 0) hz0ok _ rfl W)
  have HT1 := Lib.hid (fun W => refstampText_any (stOf r x t l) hzok _ rfl W)
  have HTE : Hid ((stOf r x t l).text = (Wst.mk r x.c x.s x.h t 0 0).text) := Lib.hid rfl
  have HL := Lib.hid hl
  have HXH := Lib.hid hx.h
  have HZB : Hid ((stOf r x t l).b = r) := Lib.hid rfl
  have HZM : Hid ((stOf r x t l).m = mrk (bkOf r x t l) (r, (Wst.mk r x.c x.s x.h t 0 0).text)) := Lib.hid rfl
  have HSIG : Hid ((((Wst.cells ⟨r, x.c, x.s, x.h, t, 0, 0⟩).toArray.setIfInBounds 36 (.int .i64 r)).setIfInBounds 37 (.int .i64 (stOf r x t l).m)) = (stOf r x t l).cells.toArray) := Lib.hid (cells_sigC _ _ _ _ _ _ _ _ _ hx.h)
  have HZL := Lib.hid (Wst.len (x := stOf r x t l) hx.h)
  have HYL := Lib.hid (Wst.len (x := ⟨r, x.c, x.s, x.h, t, 0, 0⟩) hx.h)
  have HYO := Lib.hid (Wst.one ⟨r, x.c, x.s, x.h, t, 0, 0⟩)
  have HZO := Lib.hid (Wst.all (stOf r x t l))
  have HZH : Hid ((stOf r x t l).h.length = 32) := Lib.hid hx.h
  have HYH : Hid ((⟨r, x.c, x.s, x.h, t, 0, 0⟩ : Wst).h.length = 32) := Lib.hid hx.h
  have hbko : sgn l (r, (Wst.mk r x.c x.s x.h t 0 0).text) = bkOf r x t l := rfl
  have HBKO := Lib.hid hbko
  have HND2 : Hid (bkOf r x t l).Nodup := Lib.hid (sgn_ndC hB.nd)
  have HCELLS : Hid (x.cells = Cm.cells ⟨x.c, x.s, x.h, x.n, x.b, x.m⟩) := Lib.hid rfl
  generalize bkOf r x t l = l2 at *
  generalize stOf r x t l = z at *
  clear hwa hf0 hb1 hb2 hb3 hB hzok hz0ok hr ht hl hbko
  generalize hY : (⟨r, x.c, x.s, x.h, t, 0, 0⟩ : Wst) = y at *
  generalize hT : y.text = T at *
  clear hT hY
  go_enter Try.func9, Try.ntmps9
  go_upto_region 1 with (fail)
  change Code.wp _ _ _ _ (((w.alloc (Obj.cells #[.pointer (some ⟨gb, 0, none⟩), .pointer (some ⟨gr, 0, none⟩)] 31)).alloc (Obj.cells x.cells.toArray 39)).alloc (Obj.cells zStc.cells.toArray 45))
  rw [← HWA.out]
  go_upto_region 2 with (first
    | (refine wpList_midg rfl 23 _ rfl (w.heap.size + 1) 0 rfl _ HAX.out.name row_name ?_)
    | (refine wpList_midg rfl 35 _ rfl (w.heap.size + 1) 2 rfl _ HAX.out.hash (row_hash.of HLXH.out) ?_)
    | (refine wpList_builtg rfl 45 _ rfl _ _ HBLT.out rfl ?_)
    | (refine wpList_store_box rfl 45 _ _ rfl zStc.cells.toArray 45 y.cells rfl rfl (by rw [HYL.out]; kernel_rfl) (by rw [HYL.out]; rfl) HYO.out ?_
       intro w3 hb7 hf7
       have HX3 := Lib.hid hb7
       have HF3 := Lib.hid hf7
       clear hb7 hf7))
  simp only [Act.put]
  generalize hg : wa.heap.size = g9 at *
  have hlt9 : w.heap.size + 2 < g9 := HSZ.out
  have hlt9w : g9 < w3.heap.size := HX3.out.lt
  clear hg
  have HAT := Lib.hid (Wst.at_of HX3.out.range HYH.out)
  have HRK3 := Lib.hid (HRK.out.keep HF3.out (by simp))
  have HP1 := Lib.hid (HF3.out.cell HCP1.out (by simp))
  have HNW : Hid (¬ w.heap.size ∈ g9 :: Sr) := Lib.hid (fun hm => by
    rcases List.mem_cons.1 hm with hm | hm
    · omega
    · have := HSRw.out _ hm; omega)
  have HNG : Hid (¬ g9 ∈ Sr) := Lib.hid (fun hm => by have := HSRw.out _ hm; omega)
  have hswa := HF0.out.size
  refine wp_region_held_drew (S := Fr (g9 :: Sr) w3) (by kernel_rfl) (Fr.drew (Fr.refl _ w3)) (fun hHeld => ?_)
  refine run_at (i := 0) (v := ?_) rfl (by kernel_rfl) (by rfl) (fun _ _ _ h => h) hHeld (fun w1 hw1 => ?_) ?_
  rotate_left 1
  · skip
    go_simp
    (try (first | with_reducible rfl | (apply And.intro <;> rfl)))
  simp only [Act.put, List.setIfInBounds_toArray, List.set_cons_zero, List.set_cons_succ]
  refine run_at (i := 1) (v := ?_) rfl (by kernel_rfl) (by rfl) (fun _ _ _ h => h) hHeld (fun w1 hw1 => ?_) ?_
  rotate_left 1
  · skip
    have hcw0 := hw1.cell (HP1.out) (by first | (simp; done) | exact HNS.out | exact HNW.out | (intro hm; have hlt := HSB.out _ hm; (try dsimp only at hlt); omega))
    go_simp
    (try (first | with_reducible rfl | (apply And.intro <;> rfl)))
  simp only [Act.put, List.setIfInBounds_toArray, List.set_cons_zero, List.set_cons_succ]
  refine run_at (i := 2) (v := ?_) rfl (by kernel_rfl) (by rfl) (fun _ _ _ h => h) hHeld (fun w1 hw1 => ?_) ?_
  rotate_left 1
  · skip
    go_simp
    (try (first | with_reducible rfl | (apply And.intro <;> rfl)))
  simp only [Act.put, List.setIfInBounds_toArray, List.set_cons_zero, List.set_cons_succ]
  refine step_at (i := 3) rfl (by kernel_rfl) (by rfl) (fun K hK => ?_)
  refine wp_row _ _ rfl _ _ rfl _ (HAT.out.all) (row_stamp.of HYL.out) ?_
  refine hK.out _ _ hHeld (fun hHeld => ?_)
  clear hK K
  simp only [Act.put, List.setIfInBounds_toArray, List.set_cons_zero, List.set_cons_succ]
  refine call_at (i := 4) (f := ?_) (args := ?_) rfl (by kernel_rfl) (by rfl) ?_ ?_
  rotate_left 2
  · go_simp
    (try (first | with_reducible rfl | (apply And.intro <;> rfl)))
  have h := HT0.out w3.drew
  refine h.mono ?_
  rintro e w4 ⟨A4, c4, rfl, hn4⟩
  have HF4 : Hid (Fr [] w3 w4) := Lib.hid ((Fr.drew (Fr.refl [] w3)).and hn4.2.1 (by simp))
  refine ⟨_, rfl, HF4.out.mono (by simp), fun hHeld => ?_⟩
  have HN4 := Lib.hid hn4
  clear hn4 h
  simp only [Act.put, List.setIfInBounds_toArray, List.set_cons_zero, List.set_cons_succ]
  refine call_at (i := 5) (f := ?_) (args := ?_) rfl (by kernel_rfl) (by rfl) ?_ ?_
  rotate_left 2
  · go_simp
    (try (first | with_reducible rfl | (apply And.intro <;> rfl)))
  have h := refsign_any w4 Sr gr l (HRK3.out.keep HF4.out (by simp)) HND.out r A4 _ c4 T HN4.out.by HL.out
  rw [HBKO.out, ← HZM.out] at h
  refine h.mono ?_
  rintro e w5 ⟨rfl, S1, hb5, hf5, hs5⟩
  refine ⟨_, rfl, hHeld.trans hf5 (fun x hx _ => List.mem_cons_of_mem _ hx), fun hHeld => ?_⟩
  have HR5 := Lib.hid hb5
  have HS5 : Hid (∀ y ∈ S1, y < w4.heap.size → y ∈ Sr) := Lib.hid hs5
  have hw34 := HF4.out.size
  have HF5 := Lib.hid (HF4.out.mono (T := Sr) (by simp) |>.trans hf5 (fun x hx _ => hx))
  have HX5 := Lib.hid (HX3.out.keep HF5.out HNG.out)
  clear hb5 hf5 HN4 h hs5
  simp only [Act.put, List.setIfInBounds_toArray, List.set_cons_zero, List.set_cons_succ]
  refine run_at (i := 6) (v := ?_) rfl (by kernel_rfl) (by rfl) (fun _ _ _ h => h) hHeld (fun w1 hw1 => ?_) ?_
  rotate_left 1
  · skip
    go_simp
    (try (first | with_reducible rfl | (apply And.intro <;> rfl)))
  simp only [Act.put, List.setIfInBounds_toArray, List.set_cons_zero, List.set_cons_succ]
  refine step_at (i := 7) rfl (by kernel_rfl) (by rfl) (fun K hK => ?_)
  refine wp_store_mid 37 _ _ rfl g9 36 #[.int .i64 r, .int .i64 z.m] rfl rfl (HX5.out.there 36 2 (by rw [List.size_toArray, HYL.out]; omega)) (by kernel_rfl) (by kernel_rfl) ?_
  have hb6 := (HX5.out.set 36 (.int .i64 r)).set 37 (.int .i64 z.m)
  rw [HSIG.out] at hb6
  have hf6 : Fr [g9] w5 ((w5.setCell ⟨g9, 36, none⟩ (.int .i64 r)).setCell ⟨g9, 37, none⟩ (.int .i64 z.m)) := ((Fr.refl [g9] w5).setCell _ (fun _ => by simp) _).setCell _ (fun _ => by simp) _
  change K _ ((w5.setCell ⟨g9, 36, none⟩ (.int .i64 r)).setCell ⟨g9, 37, none⟩ (.int .i64 z.m))
  generalize (w5.setCell ⟨g9, 36, none⟩ (.int .i64 r)).setCell ⟨g9, 37, none⟩ (.int .i64 z.m) = w6 at *
  refine hK.out _ _ (hHeld.trans hf6 (fun x hx _ => by simp at hx; simp [hx])) (fun hHeld => ?_)
  clear hK K
  simp only [Act.put, List.setIfInBounds_toArray, List.set_cons_zero, List.set_cons_succ]
  refine wpAnyH_done (by kernel_rfl) ?_ _
  have HX6 := Lib.hid hb6
  have HNS1 : Hid (∀ k ∈ S1, k ≠ g9) := Lib.hid (fun k hk e => HNG.out (by rw [← e]; exact HS5.out k hk (by omega)))
  have HR6 := Lib.hid (HR5.out.keep hf6 (fun x hx hm => by simp at hm; exact HNS1.out x hx hm))
  have HF56 := Lib.hid hf6
  have HF36 : Hid (Fr (g9 :: Sr) w3 w6) := Lib.hid hHeld
  clear hb6 hf6 hHeld HX5 HR5
  have HATZ := Lib.hid (Wst.at_of HX6.out.range HZH.out)
  have HSG6 : Hid (w6.rangeAt g9 36 [.int .i64 r, .int .i64 z.m]) := Lib.hid (by have := HATZ.out.sig; rw [HZB.out] at this; simpa using this)
  have HP06 := Lib.hid (HF36.out.cell (HF3.out.cell HCP0.out (by simp)) HNW.out)
  have HBK6 : Hid (Bok w6 Sb gb l) := Lib.hid ((HBK.out.keep HF3.out (by simp)).keep HF36.out (fun k hk hm => by
    rcases List.mem_cons.1 hm with hm | hm
    · have := HSB.out _ hk; omega
    · exact HDD.out k hm hk))
  have HNGB : Hid (¬ g9 ∈ Sb) := Lib.hid (fun hm => by have := HSB.out _ hm; omega)
  have HEQ : Hid (∀ W : World, (Op.equalIn 10000 37 (.agg #[.int .i64 r, .int .i64 z.m]) (.agg #[.int .i64 r, .int .i64 z.m])).run Try.prog W = .ok true W) := Lib.hid (fun W => by have := eql_sig r z.m r z.m 9998 W; simpa using this)
  clear HNW
  have HNW : Hid (¬ w.heap.size ∈ Sb) := Lib.hid (fun hm => by have := HSB.out _ hm; omega)
  go_upto_region 3 with (fail)
  refine wp_region_held_drew (S := Fr Sb w6) (by kernel_rfl) (Fr.drew (Fr.refl _ w6)) (fun hHeld => ?_)
  refine run_at (i := 0) (v := ?_) rfl (by kernel_rfl) (by rfl) (fun _ _ _ h => h) hHeld (fun w1 hw1 => ?_) ?_
  rotate_left 1
  · skip
    go_simp
    (try (first | with_reducible rfl | (apply And.intro <;> rfl)))
  simp only [Act.put, List.setIfInBounds_toArray, List.set_cons_zero, List.set_cons_succ]
  refine row_at (i := 1) rfl (by kernel_rfl) (by rfl) _ _ rfl _ _ rfl _ (fun w1 hw1 => hw1.range (HSG6.out) (by first | (simp; done) | exact HNS.out | exact HNW.out | (intro hm; have hlt := HSB.out _ hm; (try dsimp only at hlt); omega))) (row_sig) (fun _ _ _ h => h) hHeld ?_
  simp only [Act.put, List.setIfInBounds_toArray, List.set_cons_zero, List.set_cons_succ]
  refine run_at (i := 2) (v := ?_) rfl (by kernel_rfl) (by rfl) (fun _ _ _ h => h) hHeld (fun w1 hw1 => ?_) ?_
  rotate_left 1
  · skip
    go_simp
    (try (first | with_reducible rfl | (apply And.intro <;> rfl)))
  simp only [Act.put, List.setIfInBounds_toArray, List.set_cons_zero, List.set_cons_succ]
  refine run_at (i := 3) (v := ?_) rfl (by kernel_rfl) (by rfl) (fun _ _ _ h => h) hHeld (fun w1 hw1 => ?_) ?_
  rotate_left 1
  · skip
    have hcw0 := hw1.cell (HP06.out) (by first | (simp; done) | exact HNS.out | exact HNW.out | (intro hm; have hlt := HSB.out _ hm; (try dsimp only at hlt); omega))
    go_simp
    (try (first | with_reducible rfl | (apply And.intro <;> rfl)))
  simp only [Act.put, List.setIfInBounds_toArray, List.set_cons_zero, List.set_cons_succ]
  refine run_at (i := 4) (v := ?_) rfl (by kernel_rfl) (by rfl) (fun _ _ _ h => h) hHeld (fun w1 hw1 => ?_) ?_
  rotate_left 1
  · skip
    go_simp
    (try (first | with_reducible rfl | (apply And.intro <;> rfl)))
  simp only [Act.put, List.setIfInBounds_toArray, List.set_cons_zero, List.set_cons_succ]
  refine step_at (i := 5) rfl (by kernel_rfl) (by rfl) (fun K hK => ?_)
  refine wp_row _ _ rfl _ _ rfl _ (HATZ.out.all) (row_stamp.of HZL.out) ?_
  refine hK.out _ _ hHeld (fun hHeld => ?_)
  clear hK K
  simp only [Act.put, List.setIfInBounds_toArray, List.set_cons_zero, List.set_cons_succ]
  refine call_at (i := 6) (f := ?_) (args := ?_) rfl (by kernel_rfl) (by rfl) ?_ ?_
  rotate_left 2
  · go_simp
    (try (first | with_reducible rfl | (apply And.intro <;> rfl)))
  have h := HT1.out w6.drew
  rw [HTE.out] at h
  refine h.mono ?_
  rintro e w7 ⟨A7, c7, rfl, hn7⟩
  have HF7 : Hid (Fr [] w6 w7) := Lib.hid ((Fr.drew (Fr.refl [] w6)).and hn7.2.1 (by simp))
  refine ⟨_, rfl, HF7.out.mono (by simp), fun hHeld => ?_⟩
  have HN7 := Lib.hid hn7
  clear hn7 h
  simp only [Act.put, List.setIfInBounds_toArray, List.set_cons_zero, List.set_cons_succ]
  refine call_at (i := 7) (f := ?_) (args := ?_) rfl (by kernel_rfl) (by rfl) ?_ ?_
  rotate_left 2
  · go_simp
    (try (first | with_reducible rfl | (apply And.intro <;> rfl)))
  have h := sign_any w7 Sb gb l (HBK6.out.keep HF7.out (by simp)) r (wf_i64 HRR.out) A7 _ c7 T HN7.out.by (by have := HTL.out; unfold maxLen; omega) (by have := HL.out; omega)
  rw [HBKO.out, ← HZM.out] at h
  refine h.mono ?_
  rintro e w8 ⟨rfl, hb8, hf8⟩
  refine ⟨_, rfl, hHeld.trans hf8 (fun x hx _ => hx), fun hHeld => ?_⟩
  have HB8 := Lib.hid hb8
  clear hb8 hf8 HN7 h
  simp only [Act.put, List.setIfInBounds_toArray, List.set_cons_zero, List.set_cons_succ]
  refine neq_at (i := 8) rfl (by kernel_rfl) (by rfl) _ _ _ _ rfl _ _ rfl rfl _ (by kernel_rfl) (HEQ.out) (fun _ _ _ h => h) hHeld ?_
  simp only [Act.put, List.setIfInBounds_toArray, List.set_cons_zero, List.set_cons_succ]
  refine wpAnyH_done (by kernel_rfl) ?_ _
  have HF68 : Hid (Fr Sb w6 w8) := Lib.hid hHeld
  clear hHeld
  have HX8 := Lib.hid (HX6.out.keep HF68.out HNGB.out)
  have HVAL := Lib.hid (show z.val = .agg z.cells.toArray from rfl)
  have HSZD : Hid (z.cells.toArray.size = 38) := Lib.hid (by rw [List.size_toArray]; exact HZL.out)
  generalize z.cells.toArray = D at *
  have HB3r := Lib.hid ((((HB3.out.keep HF3.out (by simp)).keep HF36.out (fun hm => by
    rcases List.mem_cons.1 hm with hm | hm
    · omega
    · have := HSRw.out _ hm; omega)).keep HF68.out (fun hm => by have := HSB.out _ hm; omega)))
  go_wp2_with (first
    | (refine wpList_load_row rfl 45 _ rfl g9 rfl 45 D _ _ HX8.out Try.underlying45 rfl (by rw [HSZD.out]; kernel_rfl) ?_)
    | (refine wpList_store_row rfl 45 _ _ rfl (w.heap.size + 2) D rfl rfl 45 zStc.cells.toArray HB3r.out (by rw [HSZD.out]; kernel_rfl) (by rw [HSZD.out]; rfl) HZO.out ?_))
  have hgr := setRow_blk HB3r.out D
  have hfr := setRow_fr w8 (w.heap.size + 2) D
  have HR8 := Lib.hid (HR6.out.keep HF68.out (fun k hk hm => HDD.out k (HS5.out k hk (by have := HSB.out _ hm; omega)) hm))
  refine bodyPost_ret (v := .agg D) (results_cell_row Try.results9 _ _ (w.heap.size + 2) 45 D _ _ rfl hgr Try.underlying45 rfl (by rw [HSZD.out]; kernel_rfl)) rfl ⟨by rw [HVAL.out], S1, ⟨?_, ?_, HND2.out, ?_⟩, ?_, fun y hy hl => HS5.out y hy (by omega)⟩
  · exact HB8.out.keep hfr (fun x hx hm => by simp at hm; subst hm; have := HSB.out _ hx; omega)
  · exact HR8.out.keep hfr (fun x hx hm => by simp at hm; subst hm; have := HSRw.out _ (HS5.out _ hx (by omega)); omega)
  · intro k hk hm
    exact HDD.out k (HS5.out k hk (by have := HSB.out _ hm; omega)) hm
  · have h1 : Fr (Sb ++ Sr) w wa := HF0.out.mono (by simp)
    have h2 := (h1.trans HF3.out (by simp)).trans HF36.out (fun x hx hl => by
      rcases List.mem_cons.1 hx with hm | hm
      · omega
      · exact List.mem_append.2 (.inr hm))
    have h3 := h2.trans HF68.out (fun x hx _ => List.mem_append.2 (.inl hx))
    exact h3.trans hfr (fun x hx hl => by simp at hx; subst hx; omega)
end Go.Proofs.Ytlkhfhhaallhgaa

namespace Go.Proofs.Ytlkhfhhaallhgaa
open Go.RowKit
set_option maxRecDepth 100000
theorem wp_append_onec {P : Program} {o : Oper} {a : Act} {w : World} {K : Act → World → Prop} {Q : Exit → Act → World → Prop} (s x : Operand) (t e : TypeId)
    (ho : o.op = .call { callee := .builtin .append, args := #[s, x], argTypes := #[t, t] }) (ht : P.underlying t = some (.slice e)) (k bytes : Nat) (he : ElTy P e k bytes) (hk : 0 < k)
    (base : Nat) (v : Value) (n : Nat) (xs cs : List Value) (hs : a.eval s = v) (hown : w.ownsRow base e k v n xs) (hbase : base ≤ w.heap.size) (hcl : cs.length = k) (h1 : ∀ u ∈ cs, u.oneCell' = true)
    (g : Nat) (t' : TypeId) (hx : a.eval x = .slice (some ⟨g, 0, none⟩) 1 1) (hb : Blk w g t' cs.toArray) (hn : n < 1000000) (hby : bytes ≤ 1000)
    (h : ∀ A c w', w'.ownsRow base e k (.slice A (n + 1) c) (n + 1) (xs ++ cs) → Fr v.ownBlock.toList w w' → ((Value.slice A (n + 1) c).ownBlock = v.ownBlock ∨ (Value.slice A (n + 1) c).ownBlock = some w.heap.size) → K (a.put o.dst (.slice A (n + 1) c)) w') : o.wp P a w K Q := by
  obtain ⟨i, z, hi, hz, hzs, hsz, hbs⟩ := he
  refine wp_append_lies w s x t ho base e i z k bytes ht hi hz hsz hbs hzs hk v n xs hs hown ⟨g, 0, none⟩ 1 1 cs hx (by omega) (fun j u hu => ?_) h1 (by omega) (by simp only [maxLen]; omega)
    (Nat.le_trans (Nat.mul_le_mul (show n + 1 ≤ 1000000 by omega) hby) (by decide)) hbase _ rfl (fun g' cap w' h2 h3 h4 _ => ?_)
  · have hadd : (⟨g, 0, none⟩ : Addr).add j = ⟨g, j, none⟩ := by unfold Addr.add; split <;> simp_all
    rw [hadd, hb.cell j]
    simpa using hu
  · exact h _ _ w' h2 ((Fr.refl _ w).grown h3 (fun y hy _ => by simp [hy])) (h4.imp (fun e => e.symm) (fun e => by rw [e]; rfl))
theorem till_stepC {P : Program} {l : List Oper} {Q : Exit → Act → World → Prop} {md : Region.Mode} {T : Nat} {A B : World → Prop} {fuel : Nat} {L : Array Bool} {a : Act} {w : World} {i : Nat} {o : Oper} (hi : nthOp l i = some o) (hr : Region.ready md l.toArray L = [i]) (hw : Region.wanted o (yielded l.toArray a.tmps) = true)
    (h : ∀ K : Act → World → Prop, Shut (∀ a w, A w → B w → (A w → B w → wpTill P md l.toArray Q T A B fuel (L.setIfInBounds i true) a w) → K a w) → Oper.wp P o a w K Q) : wpTill P md l.toArray Q T A B (fuel + 1) L a w :=
  till_one hi hr hw (h _ (fun a w hA hB hW => ⟨⟨hA, fun _ => hB⟩, hW hA hB⟩))

theorem builtCe_eq (parts : List (Nat × Value)) : Try.prog.built 48 parts = Instr.fill ([(0, 37), (37, 1)].toArray[·]?) (Wce.cells ⟨⟨0, 0, List.replicate 32 0, 0, 0, 0⟩, none, 0, 0, []⟩).toArray parts := by kernel_rfl
theorem built_ceC (y : Cm) (hh : y.h.length = 32) : Try.prog.built 48 [(0, .agg y.cells.toArray)] = some (y.cells ++ [Value.slice none 0 0]).toArray := by
  have hk : y.cells.length = 37 := Cm.len hh
  rw [builtCe_eq, fill_step _ _ 0 0 37 _ _ rfl (by simp [Value.cells, hk]) (by show 0 + 37 ≤ 38; omega), Instr.fill]
  congr 2
  have tk : ∀ n, 32 ≤ n → (y.h.map by8).take n = y.h.map by8 := fun n hn => List.take_of_length_le (by simp [hh]; omega)
  have dk : ∀ n, 32 ≤ n → (y.h.map by8).drop n = [] := fun n hn => List.drop_of_length_le (by simp [hh]; omega)
  simp [splice, Wce.cells, Wcm.cells, Cm.cells, Value.cells, hh, List.drop_append, List.take_append, tk, dk]
theorem wrap_u64_nat (z : Int) : ∃ t : Nat, IntKind.u64.wrap z = (t : Int) ∧ t < 18446744073709551616 := ⟨(IntKind.u64.wrap z).toNat, by simp [IntKind.wrap, IntKind.bits, IntKind.signed]; omega, by simp [IntKind.wrap, IntKind.bits, IntKind.signed]; omega⟩
theorem row_books : RowTy Try.prog 31 2 := ⟨by kernel_rfl, by kernel_rfl⟩
def ceZ : Array Value := (Wce.cells ⟨⟨0, 0, List.replicate 32 0, 0, 0, 0⟩, none, 0, 0, []⟩).toArray
end Go.Proofs.Ytlkhfhhaallhgaa

namespace Go.Proofs.Ytlkhfhhaallhgaa
open Go.RowKit
set_option maxRecDepth 100000

theorem Blk.mid {g : Nat} {t : TypeId} : ∀ (V M P Z : List Value) (w : World), V.length = M.length → Blk w g t (P ++ (M ++ Z)).toArray → Blk (w.setCells g P.length V) g t (P ++ (V ++ Z)).toArray
  | [], M, P, Z, w, h, hb => by
    have : M = [] := List.eq_nil_of_length_eq_zero (by simpa using h.symm)
    subst this
    exact hb
  | v :: V, [], P, Z, w, h, hb => by simp at h
  | v :: V, m :: M, P, Z, w, h, hb => by
    have h1 := hb.set P.length v
    rw [List.setIfInBounds_toArray, List.set_append_right _ _ (Nat.le_refl _), Nat.sub_self] at h1
    have h2 := Blk.mid V M (P ++ [v]) Z (w.setCell ⟨g, P.length, none⟩ v) (by simpa using h) (by simpa using h1)
    have e : (P ++ [v]).length = P.length + 1 := by simp
    rw [e] at h2
    simpa [World.setCells] using h2
theorem Blk.mid_at {g : Nat} {t : TypeId} {w : World} (V M P Z : List Value) (o : Nat) (ho : P.length = o) (h : V.length = M.length) (cs cs' : List Value) (hc : cs = P ++ (M ++ Z)) (hc' : cs' = P ++ (V ++ Z)) (hb : Blk w g t cs.toArray) : Blk (w.setCells g o V) g t cs'.toArray := by
  subst ho
  subst hc
  subst hc'
  exact Blk.mid V M P Z w h hb
theorem Fr.setCells {S : List Nat} {a : World} {g : Nat} (hg : g < a.heap.size → g ∈ S) : ∀ (V : List Value) (o : Nat) (w : World), Fr S a w → Fr S a (w.setCells g o V)
  | [], _, _, h => h
  | v :: V, o, w, h => Fr.setCells hg V (o + 1) _ (h.setCell ⟨g, o, none⟩ hg v)
theorem own_blk {w : World} {base : Nat} {e : TypeId} {k n c g : Nat} {xs : List Value} (h : w.ownsRow base e k (.slice (some ⟨g, 0, none⟩) n c) n xs) : ∃ R : List Value, Blk w g e (xs ++ R).toArray ∧ (xs ++ R).length = c * k ∧ n ≤ c ∧ c ≤ maxLen ∧ base ≤ g := by
  rcases h.2 with ⟨hv, _⟩ | ⟨g', cap, cur, hv, hb, hh, hnc, hcm, hcs, htk⟩
  · injection hv with h1
    cases h1
  · injection hv with h1 h2 h3
    injection h1 with h1
    injection h1 with h1
    subst h1
    subst h3
    refine ⟨cur.toList.drop (n * k), ?_, ?_, hnc, hcm, hb⟩
    · have e : (xs ++ cur.toList.drop (n * k)).toArray = cur := by rw [← htk, List.take_append_drop]
      unfold Blk
      rw [e]
      exact hh
    · rw [← htk, List.take_append_drop]
      simpa using hcs
/-- an element of a row that the call owns is stored -/
theorem own_put {α : Type} {cells : α → List Value} {w : World} {base : Nat} {e : TypeId} {k n c g : Nat} {l : List α} (h : w.ownsRow base e k (.slice (some ⟨g, 0, none⟩) n c) n (l.flatMap cells)) (hk : ∀ v ∈ l, (cells v).length = k) {i : Nat} (hi : i < l.length) (v : α) (hv : (cells v).length = k) :
    (w.setCells g (i * k) (cells v)).ownsRow base e k (.slice (some ⟨g, 0, none⟩) n c) n ((l.set i v).flatMap cells) ∧ w.there g (i * k) k := by
  obtain ⟨P, x, Q, rfl, hP⟩ : ∃ P x Q, l = P ++ x :: Q ∧ P.length = i := ⟨l.take i, l[i], l.drop (i + 1), by simp, by simp; omega⟩
  obtain ⟨R, hb, hl, hnc, hcm, hbase⟩ := own_blk h
  have hp : (P.flatMap cells).length = i * k := by rw [cells_flat_len (fun u hu => hk u (by simp [hu])), hP]
  have hx : (cells x).length = k := hk x (by simp)
  have hs : (P ++ x :: Q).set i v = P ++ v :: Q := by rw [← hP, List.set_append_right _ _ (Nat.le_refl _), Nat.sub_self]; rfl
  rw [hs]
  have hc : (P ++ x :: Q).flatMap cells ++ R = P.flatMap cells ++ (cells x ++ (Q.flatMap cells ++ R)) := by simp
  have hc' : (P ++ v :: Q).flatMap cells ++ R = P.flatMap cells ++ (cells v ++ (Q.flatMap cells ++ R)) := by simp
  have hb2 := Blk.mid_at (cells v) (cells x) (P.flatMap cells) (Q.flatMap cells ++ R) (i * k) hp (by rw [hv, hx]) _ _ hc hc' hb
  have hlen : ((P ++ v :: Q).flatMap cells).length = ((P ++ x :: Q).flatMap cells).length := by simp [hv, hx]
  have h1 := h.1
  refine ⟨⟨by rw [hlen]; exact h1, .inr ⟨g, c, _, rfl, hbase, hb2, hnc, hcm, ?_, ?_⟩⟩, hb.there _ _ ?_⟩
  · rw [List.size_toArray, ← hl, List.length_append, List.length_append, hlen]
  · rw [← h1, ← hlen]
    exact List.take_left
  · rw [List.size_toArray, hc]
    simp only [List.length_append]
    omega
theorem add_at (g o : Nat) : (⟨g, 0, none⟩ : Addr).add o = ⟨g, o, none⟩ := by unfold Addr.add; split <;> simp_all

def upI (v : Int) : Int := v % 1099511627776
theorem upI_in (v : Int) : i64In (upI v) := by unfold i64In upI; omega
theorem upI_idem (v : Int) : upI (upI v) = upI v := by unfold upI; omega
theorem row_nm2 : RowTy Try.prog 23 2 := ⟨by kernel_rfl, by kernel_rfl⟩
theorem row_sg2 : RowTy Try.prog 37 2 := ⟨by kernel_rfl, by kernel_rfl⟩
theorem built_nm3 (c s : Int) : Try.prog.built 23 [(0, .int .i64 c), (1, .int .i64 s)] = some #[.int .i64 c, .int .i64 s] := by kernel_rfl
theorem built_sg3 (c s : Int) : Try.prog.built 37 [(0, .int .i64 c), (1, .int .i64 s)] = some #[.int .i64 c, .int .i64 s] := by kernel_rfl

end Go.Proofs.Ytlkhfhhaallhgaa

namespace Go.Proofs.Ytlkhfhhaallhgaa
open Go.RowKit
set_option maxRecDepth 100000

theorem built_cfC (f k : Int) : Try.prog.built 27 [(0, .int .i64 f), (1, .int .i64 k)] = some #[.int .i64 f, .int .i64 k] := by kernel_rfl
theorem built_nmC (c s : Int) : Try.prog.built 23 [(0, .int .i64 c), (1, .int .i64 s)] = some #[.int .i64 c, .int .i64 s] := by kernel_rfl
theorem by_ltC {w : World} {A : Option Addr} {n : Nat} {l : List UInt8} (h : By w A n l) (hn : 0 < n) (a : Addr) (ha : A = some a) : a.block < w.heap.size := by
  obtain ⟨ad, b, e, _, hc⟩ := h.at hn
  rw [e] at ha
  injection ha with ha
  subst ha
  have := World.block_lt_of_cell? _ _ hc
  rwa [add_block] at this
theorem by_keepC {w w' : World} {S : List Nat} {A : Option Addr} {n : Nat} {l : List UInt8} (h : By w A n l) (hf : Fr S w w') (hA : 0 < n → ∀ a, A = some a → ¬ a.block ∈ S) : By w' A n l := by
  rcases Nat.eq_zero_or_pos n with h0 | h0
  · subst h0
    have : l = [] := List.eq_nil_of_length_eq_zero h.1
    subst this
    exact By.nil _ _
  · exact h.keep hf (hA h0)
/-- a certificate as Books.Cert makes it, in the box gX -/
def CeAt (wb w : World) (gX : Nat) (Sb : List Nat) (gb gr : Nat) (m : Nat) (z : Cm) (A : Option Addr) (c : Nat) (L : List Wst) (l : List Ent) (Sr : List Nat) : Prop :=
  z.Ok ∧ Blk w gX 48 (z.cells ++ [Value.slice A m c]).toArray ∧ w.ownsRow 0 45 38 (.slice A m c) m (L.flatMap Wst.cells) ∧ L.length = m ∧ (∀ v ∈ L, v.Ok) ∧ BB w Sb gb Sr gr l ∧ l.length ≤ 100 ∧ (∀ q ∈ Sr, q < wb.heap.size → q = gr) ∧ (∀ q ∈ Sr, q ≠ gX) ∧
    (∀ q ∈ bk A, wb.heap.size ≤ q ∧ q ≠ gX ∧ ¬ q ∈ Sr) ∧ wb.heap.size ≤ gX ∧ gX < w.heap.size ∧ Fr (Sb ++ [gr]) wb w
theorem lst_blkC {w : World} {g m : Nat} {e : TypeId} {L : List Wst} {R : List Value} (hb : Blk w g e (L.flatMap Wst.cells ++ R).toArray) (hl : L.length = m) (hok : ∀ v ∈ L, v.Ok) : Lst 38 Wst.cells (fun _ v => v.Ok) w (some ⟨g, 0, none⟩) m L := by
  refine ⟨hl, fun v hv => ⟨Wst.len (hok v hv).h, hok v hv⟩, fun _ => ⟨_, rfl, fun i v hi j x hx => ?_⟩⟩
  rw [add_at, hb.cell (i * 38 + j)]
  have h := flat_at (cells := Wst.cells) (fun v hv => Wst.len (hok v hv).h) hi hx
  rw [List.getElem?_toArray, List.getElem?_append_left (List.getElem?_eq_some_iff.1 h).1]
  exact h
theorem lst_oneC {w : World} {g m : Nat} {e : TypeId} {L : List Wst} {R : List Value} (hb : Blk w g e (L.flatMap Wst.cells ++ R).toArray) (hl : L.length = m) (hok : ∀ v ∈ L, v.Ok) {q : Nat} {v v' : Wst} (hq : L[q]? = some v) {j : Nat} (hj : j < 38) {u : Value} (hv' : v'.cells = v.cells.set j u) (hok' : v'.Ok) :
    Lst 38 Wst.cells (fun _ v => v.Ok) (w.setCell ⟨g, q * 38 + j, none⟩ u) (some ⟨g, 0, none⟩) m (L.set q v') := by
  have hb' := hb.set (q * 38 + j) u
  have hql := (List.getElem?_eq_some_iff.1 hq).1
  have hvl : v.cells.length = 38 := Wst.len (hok v (List.mem_of_getElem? hq)).h
  refine ⟨by simp [hl], fun x hx => ?_, fun _ => ⟨_, rfl, fun i x hi j' y hy => ?_⟩⟩
  · rcases List.mem_or_eq_of_mem_set hx with h | h
    · exact ⟨Wst.len (hok x h).h, hok x h⟩
    · rw [h]; exact ⟨Wst.len hok'.h, hok'⟩
  · have hlen : ∀ v ∈ L, (Wst.cells v).length = 38 := fun v hv => Wst.len (hok v hv).h
    have hq0 := flat_at hlen hq (List.getElem?_eq_getElem (show j < v.cells.length by omega))
    have hq1 := (List.getElem?_eq_some_iff.1 hq0).1
    rw [add_at, hb'.cell (i * 38 + j'), List.setIfInBounds_toArray, List.getElem?_toArray]
    by_cases hiq : q = i
    · subst hiq
      rw [List.getElem?_set_self hql] at hi
      injection hi with hi
      subst hi
      rw [hv'] at hy
      have hj' : j' < 38 := by have := (List.getElem?_eq_some_iff.1 hy).1; simpa [hvl] using this
      by_cases hjj : j = j'
      · subst hjj
        rw [List.getElem?_set_self (by omega)] at hy
        rw [List.getElem?_set_self (by rw [List.length_append]; omega)]
        exact hy
      · rw [List.getElem?_set_ne hjj] at hy
        rw [List.getElem?_set_ne (by omega)]
        have h := flat_at hlen hq hy
        rw [List.getElem?_append_left (List.getElem?_eq_some_iff.1 h).1]
        exact h
    · rw [List.getElem?_set_ne hiq] at hi
      have hj' : j' < 38 := by
        have h1 := (List.getElem?_eq_some_iff.1 hy).1
        rw [hlen x (List.mem_of_getElem? hi)] at h1
        exact h1
      rw [List.getElem?_set_ne (by omega)]
      have h := flat_at hlen hi hy
      rw [List.getElem?_append_left (List.getElem?_eq_some_iff.1 h).1]
      exact h
theorem lst_tailC {w : World} {g m : Nat} {L : List Wst} (h : Lst 38 Wst.cells (fun _ v => v.Ok) w (some ⟨g, 0, none⟩) m L) (hm : 1 ≤ m) : Lst 38 Wst.cells (fun _ v => v.Ok) w (some ⟨g, 38, none⟩) (m - 1) (L.drop 1) := by
  refine ⟨by rw [List.length_drop, h.1], fun v hv => h.2.1 v (List.mem_of_mem_drop hv), fun _ => ⟨_, rfl, fun i v hi j x hx => ?_⟩⟩
  obtain ⟨ad, e, hc⟩ := h.2.2 (by omega)
  injection e with e
  subst e
  rw [List.getElem?_drop] at hi
  have := hc (1 + i) v hi j x hx
  rw [add_off] at this ⊢
  rw [show 38 + (i * 38 + j) = 0 + ((1 + i) * 38 + j) by omega]
  exact this
theorem wrap_i64_in (z : Int) : i64In (wrap64 z) := by unfold i64In wrap64; omega
theorem cells_tC (v : Wst) (hh : v.h.length = 32) (t : Nat) : (⟨v.r, v.c, v.s, v.h, t, v.b, v.m⟩ : Wst).cells = v.cells.set 35 (.int .u64 (t : Int)) := by simp [Wst.cells, List.set_append, hh]
theorem cells_rC (v : Wst) (r : Int) : (⟨r, v.c, v.s, v.h, v.t, v.b, v.m⟩ : Wst).cells = v.cells.set 0 (.int .i64 r) := by simp [Wst.cells]
theorem cells_mC (v : Wst) (hh : v.h.length = 32) (m : Int) : (⟨v.r, v.c, v.s, v.h, v.t, v.b, m⟩ : Wst).cells = v.cells.set 37 (.int .i64 m) := by simp [Wst.cells, List.set_append, hh]
theorem xor1C (b : UInt8) : ∃ d : UInt8, bits .xor .u8 (b.toNat : Int) 1 = (d.toNat : Int) ∧ d ≠ b := by
  refine ⟨b ^^^ 1, ?_, ?_⟩
  · have key : ∀ a : Fin 256, bits .xor .u8 (((UInt8.ofNat a.val).toNat : Nat) : Int) 1 = (((UInt8.ofNat a.val) ^^^ 1).toNat : Int) := by decide +kernel
    have := key ⟨b.toNat, b.toNat_lt⟩
    simpa using this
  · have key : ∀ a : Fin 256, (UInt8.ofNat a.val) ^^^ 1 ≠ UInt8.ofNat a.val := by decide +kernel
    have := key ⟨b.toNat, b.toNat_lt⟩
    simpa using this
theorem cells_hC (z : Cm) (hh : z.h.length = 32) (d : UInt8) (u : Value) : (z.cells ++ [u]).toArray.setIfInBounds 5 (by8 d) = ((⟨z.c, z.s, z.h.set 3 d, z.n, z.b, z.m⟩ : Cm).cells ++ [u]).toArray := by
  simp [Cm.cells, List.set_append, hh, List.map_set]
theorem row_cer2 : RowTy Try.prog 48 38 := ⟨by kernel_rfl, by kernel_rfl⟩
/-- behind the switch: a certificate in the box gX, whatever was done to it; both books alike -/
structure CrX (w0 w : World) (gX : Nat) (Sb : List Nat) (gb gr Fn gC gKb : Nat) (z : Cm) (A : Option Addr) (n c : Nat) (L : List Wst) (l : List Ent) (Sr : List Nat) : Prop where
  fz : z.Ok
  fb : Blk w gX 48 (z.cells ++ [Value.slice A n c]).toArray
  fl : Lst 38 Wst.cells (fun _ v => v.Ok) w A n L
  fn : 0 < n ∧ n ≤ 8
  fc : n ≤ c
  fbb : BB w Sb gb Sr gr l
  fcf : Blk w gC 27 #[.int .i64 (Fn : Int), .int .i64 3]
  fbx : Blk w gKb 31 #[.pointer (some ⟨gb, 0, none⟩), .pointer (some ⟨gr, 0, none⟩)]
  ff : Fr [] w0 w
end Go.Proofs.Ytlkhfhhaallhgaa

namespace Go.Proofs.Ytlkhfhhaallhgaa
open Go.RowKit
set_option maxRecDepth 100000
/-- ints that came in -/
def Nums (w : World) (A : Option Addr) (n : Nat) (l : List Int) : Prop :=
  l.length = n ∧ (∀ v ∈ l, -9223372036854775808 ≤ v ∧ v < 9223372036854775808) ∧ (0 < n → ∃ ad, A = some ad ∧ ∀ j v, l[j]? = some v → w.cell? (ad.add j) = some (.int .i64 v))
theorem Nums.keep {w w' : World} {A : Option Addr} {n : Nat} {l : List Int} {S : List Nat} (h : Nums w A n l) (hf : Fr S w w') (hA : ∀ a, A = some a → ¬ a.block ∈ S) : Nums w' A n l :=
  ⟨h.1, h.2.1, fun hn => by
    obtain ⟨ad, e, hc⟩ := h.2.2 hn
    exact ⟨ad, e, fun j u hu => hf.cell (hc j u hu) (by rw [add_block]; exact hA ad e)⟩⟩
theorem Nums.lt {w : World} {A : Option Addr} {n : Nat} {l : List Int} (h : Nums w A n l) (hn : 0 < n) : ∀ a, A = some a → a.block < w.heap.size := by
  intro a ha
  obtain ⟨ad, e, hc⟩ := h.2.2 hn
  rw [ha] at e
  injection e with e
  subst e
  have hl : 0 < l.length := by rw [h.1]; exact hn
  have := World.block_lt_of_cell? w _ (hc 0 _ (List.getElem?_eq_getElem hl))
  rwa [add_block] at this
theorem Nums.at {w : World} {A : Option Addr} {n k : Nat} {l : List Int} (h : Nums w A n l) (hk : k < n) : ∃ ad v, A = some ad ∧ -9223372036854775808 ≤ v ∧ v < 9223372036854775808 ∧ w.cell? (ad.add k) = some (.int .i64 v) := by
  obtain ⟨ad, e, hc⟩ := h.2.2 (by omega)
  have hl : k < l.length := by rw [h.1]; exact hk
  have hb := h.2.1 l[k] (List.getElem_mem hl)
  exact ⟨ad, l[k], e, hb.1, hb.2, hc k _ (List.getElem?_eq_getElem hl)⟩

section
variable {H : Type} {enc : TypeId × Value → H} {w : World} {spare : Nat → Bool} {held : Bool}
theorem nums_of_trod {fuel : Nat} {A : Option Addr} {len cap : Nat} {x : DataW H × List MemPlace} (h : DataW.trod enc Try.prog w 0 spare held fuel 55 [.slice A len cap] = some x) :
    ∃ l, Nums w A len l ∧ len ≤ cap ∧ cap ≤ maxLen := by
  rcases Go.ChangeShapes.open_ints Try.underlying55 Try.underlying3 (by kernel_rfl) h with ⟨hcs, _⟩ | ⟨x, l, c, zs, hcs, _, hl, hm, hz, _, hcell, hwz⟩
  · simp at hcs
    obtain ⟨rfl, rfl, rfl⟩ := hcs
    exact ⟨[], ⟨rfl, by simp, fun h => absurd h (by omega)⟩, Nat.le_refl _, Nat.zero_le _⟩
  · simp at hcs
    obtain ⟨rfl, rfl, rfl⟩ := hcs
    have hlen : len ≤ zs.length := by rw [hz]; split <;> omega
    refine ⟨zs.take len, ⟨by simp; omega, fun v hv => i64_of (hwz v (List.mem_of_mem_take hv)), fun _ => ⟨x, rfl, fun j v hj => ?_⟩⟩, hl, hm⟩
    rw [List.getElem?_take] at hj
    split at hj
    · have hjl : j < zs.length := (List.getElem?_eq_some_iff.1 hj).1
      rw [hcell j hjl, List.getD, hj]
      rfl
    · cases hj
end
end Go.Proofs.Ytlkhfhhaallhgaa

namespace Go.Proofs.Ytlkhfhhaallhgaa
open Go.RowKit
set_option maxRecDepth 100000
/-- what is left for a reader, and whether it has failed -/
abbrev Ps := List UInt8 × Bool
def pI (s : Ps) : Int × Ps := ((inN s.1 1099511627776 : Nat), (inL s.1 1099511627776, inB s.1 1099511627776 s.2))
def pC (s : Ps) : Nat × Ps := (inN s.1 100, (inL s.1 100, inB s.1 100 s.2))
def pN (s : Ps) : Nat × Ps := (rdN s.1, (rdL s.1, rdB s.1 s.2))
def pH (s : Ps) : List UInt8 × Ps := (hashOf s.1, (tookL s.1, tookB s.1 s.2))
def pR (s : Ps) : List UInt8 × Ps := (rwV s.1 256, (rwL s.1 256, rwB s.1 256 s.2))
def p2 (s : Ps) : (Int × Int) × Ps := (((pI s).1, (pI (pI s).2).1), (pI (pI s).2).2)
theorem Fr.unbox {g q : Nat} {w wa w1 w2 : World} (h0 : Fr [] w wa) (h1 : Fr [g] wa w1) (h2 : Fr [q] w1 w2) (hq : w.heap.size ≤ q) : Fr [g] w w2 :=
  ((h0.mono (T := [g]) (by simp)).trans h1 (fun x hx _ => hx)).trans h2 (fun x hx hl => by simp at hx; omega)
theorem inL_le (R : List UInt8) (m : Int) : (inL R m).length ≤ R.length := by
  unfold inL
  cases dec R with
  | none => simp
  | some p => simp only; split <;> simp
theorem rdL_le (R : List UInt8) : (rdL R).length ≤ R.length := by
  unfold rdL
  cases dec R with
  | none => simp
  | some p => simp
theorem tookL_le (R : List UInt8) : (tookL R).length ≤ R.length := by unfold tookL; split <;> simp
theorem rwL_le (R : List UInt8) (m : Int) : (rwL R m).length ≤ R.length := by
  unfold rwL
  cases dec R with
  | none => simp
  | some p => simp only; split <;> simp
theorem inN_le (R : List UInt8) {m : Int} (hm : 0 ≤ m) : ((inN R m : Nat) : Int) ≤ m := by
  unfold inN
  cases dec R with
  | none => simpa using hm
  | some p =>
    simp only
    split
    · assumption
    · simpa using hm
theorem rdN_lt (R : List UInt8) : rdN R < 18446744073709551616 := by
  unfold rdN
  cases h : dec R with
  | none => simp
  | some p => exact (dec_some (n := p.1) (s := p.2) h).2.2.2
theorem pI_in (s : Ps) : i64In (pI s).1 := by
  have h := inN_le s.1 (m := 1099511627776) (by omega)
  unfold pI i64In
  simp only
  omega
section
variable {w : World} {F : List Nat} {g : Nat} {s : Ps}
end
theorem pH_len (s : Ps) : (pH s).1.length = 32 := hashOf_len s.1
theorem pC_le (s : Ps) : (pC s).1 ≤ 100 := by have h := inN_le s.1 (m := 100) (by omega); unfold pC; simp only; omega
theorem pN_lt (s : Ps) : (pN s).1 < 18446744073709551616 := rdN_lt s.1
def zCm : Array Value := (Wcm.cells ⟨0, 0, List.replicate 32 0, 0, 0, 0⟩).toArray
def zSt : Array Value := (Wst.cells ⟨0, 0, 0, List.replicate 32 0, 0, 0, 0⟩).toArray
theorem built_cmE (parts : List (Nat × Value)) : Try.prog.built 39 parts = Instr.fill ([(0, 2), (2, 32), (34, 1), (35, 2)].toArray[·]?) zCm parts := by kernel_rfl
theorem built_cmR (c s n b m : Int) (h : List UInt8) (hh : h.length = 32) :
    Try.prog.built 39 [(0, .agg #[.int .i64 c, .int .i64 s]), (1, .agg (h.map by8).toArray), (2, .int .i64 n), (3, .agg #[.int .i64 b, .int .i64 m])] = some (Wcm.cells ⟨c, s, h, n, b, m⟩).toArray := by
  have hz : zCm.size = 37 := rfl
  rw [built_cmE, fill_step _ _ 0 0 2 _ _ rfl rfl (by rw [hz]; omega), fill_step _ _ 1 2 32 _ _ rfl (by simp [Value.cells, hh]) (by simp [splice, zCm, Wcm.cells, Value.cells]),
    fill_step _ _ 2 34 1 _ _ rfl rfl (by simp [splice, zCm, Wcm.cells, Value.cells, hh]), fill_step _ _ 3 35 2 _ _ rfl rfl (by simp [splice, zCm, Wcm.cells, Value.cells, hh]), Instr.fill]
  congr 2
  have tk : ∀ n, 32 ≤ n → (h.map by8).take n = h.map by8 := fun n hn => List.take_of_length_le (by simp [hh]; omega)
  have dk : ∀ n, 32 ≤ n → (h.map by8).drop n = [] := fun n hn => List.drop_of_length_le (by simp [hh]; omega)
  simp [splice, zCm, Wcm.cells, Value.cells, hh, List.drop_append, List.take_append, tk, dk]
theorem built_stE (parts : List (Nat × Value)) : Try.prog.built 45 parts = Instr.fill ([(0, 1), (1, 2), (3, 32), (35, 1), (36, 2)].toArray[·]?) zSt parts := by kernel_rfl
theorem built_stR (r c s : Int) (t : Nat) (b m : Int) (h : List UInt8) (hh : h.length = 32) :
    Try.prog.built 45 [(0, .int .i64 r), (1, .agg #[.int .i64 c, .int .i64 s]), (2, .agg (h.map by8).toArray), (3, .int .u64 (t : Int)), (4, .agg #[.int .i64 b, .int .i64 m])] = some (Wst.cells ⟨r, c, s, h, t, b, m⟩).toArray := by
  have hz : zSt.size = 38 := rfl
  rw [built_stE, fill_step _ _ 0 0 1 _ _ rfl rfl (by rw [hz]; omega), fill_step _ _ 1 1 2 _ _ rfl rfl (by simp [splice, zSt, Wst.cells, Value.cells]), fill_step _ _ 2 3 32 _ _ rfl (by simp [Value.cells, hh]) (by simp [splice, zSt, Wst.cells, Value.cells]),
    fill_step _ _ 3 35 1 _ _ rfl rfl (by simp [splice, zSt, Wst.cells, Value.cells, hh]), fill_step _ _ 4 36 2 _ _ rfl rfl (by simp [splice, zSt, Wst.cells, Value.cells, hh]), Instr.fill]
  congr 2
  have tk : ∀ n, 32 ≤ n → (h.map by8).take n = h.map by8 := fun n hn => List.take_of_length_le (by simp [hh]; omega)
  have dk : ∀ n, 32 ≤ n → (h.map by8).drop n = [] := fun n hn => List.drop_of_length_le (by simp [hh]; omega)
  simp [splice, zSt, Wst.cells, Value.cells, hh, List.drop_append, List.take_append, tk, dk]
theorem built_p2n (c s : Int) : Try.prog.built 23 [(0, .int .i64 c), (1, .int .i64 s)] = some #[.int .i64 c, .int .i64 s] := by kernel_rfl
theorem built_p2s (c s : Int) : Try.prog.built 37 [(0, .int .i64 c), (1, .int .i64 s)] = some #[.int .i64 c, .int .i64 s] := by kernel_rfl
def pCm (s : Ps) : Wcm × Ps := (⟨(p2 s).1.1, (p2 s).1.2, (pH (p2 s).2).1, (pI (pH (p2 s).2).2).1, (p2 (pI (pH (p2 s).2).2).2).1.1, (p2 (pI (pH (p2 s).2).2).2).1.2⟩, (p2 (pI (pH (p2 s).2).2).2).2)
def pSt (s : Ps) : Wst × Ps := (⟨(pI s).1, (p2 (pI s).2).1.1, (p2 (pI s).2).1.2, (pH (p2 (pI s).2).2).1, (pN (pH (p2 (pI s).2).2).2).1, (p2 (pN (pH (p2 (pI s).2).2).2).2).1.1, (p2 (pN (pH (p2 (pI s).2).2).2).2).1.2⟩, (p2 (pN (pH (p2 (pI s).2).2).2).2).2)
def pDn (s : Ps) : Wdn × Ps := (⟨(pI s).1, (pI (pI s).2).1, (p2 (pI (pI s).2).2).1.1, (p2 (pI (pI s).2).2).1.2⟩, (p2 (pI (pI s).2).2).2)
theorem pCm_ok (s : Ps) : (pCm s).1.Ok := ⟨pI_in _, pI_in _, pH_len _, pI_in _, pI_in _, pI_in _⟩
theorem pSt_ok (s : Ps) : (pSt s).1.Ok := ⟨pI_in _, pI_in _, pI_in _, pH_len _, pN_lt _, pI_in _, pI_in _⟩
theorem pDn_ok (s : Ps) : (pDn s).1.Ok := ⟨pI_in _, pI_in _, pI_in _, pI_in _⟩
end Go.Proofs.Ytlkhfhhaallhgaa

namespace Go.Proofs.Ytlkhfhhaallhgaa
open Go.RowKit
set_option maxRecDepth 100000
def pRep {α : Type} (p : Ps → α × Ps) : Nat → Ps → List α × Ps
  | 0, s => ([], s)
  | n + 1, s => ((pRep p n s).1 ++ [(p (pRep p n s).2).1], (p (pRep p n s).2).2)
def pL {α : Type} (p : Ps → α × Ps) (s : Ps) : List α × Ps := pRep p (pC s).1 (pC s).2
/-- parts as a reader takes them: how many there are is not bounded but by what may be read -/
structure Wce.Li (w : World) (S : List Nat) (x : Wce) : Prop where
  k : x.k.Ok
  l : Lst 38 Wst.cells (fun _ v => v.Ok) w x.A x.n x.l
  n : x.n ≤ 100
  ap : 0 < x.n → ∀ a, x.A = some a → ¬ a.block ∈ S
theorem Wce.Li.keep {w W : World} {S S' : List Nat} {x : Wce} (h : x.Li w S) (hf : Fr S w W) (hs : ∀ k ∈ S', k < w.heap.size → k ∈ S) : x.Li W S' :=
  ⟨h.k, h.l.keep' hf h.ap (fun _ _ h => h), h.n, fun hn a ha hin => h.ap hn a ha (hs _ hin (h.l.lt hn (by decide) (fun v hv => Wst.len (h.l.2.1 v hv).2.h) a ha))⟩
structure Wpr.Li (w : World) (S : List Nat) (x : Wpr) : Prop where
  r : i64In x.r
  e : i64In x.e
  t : x.t < 18446744073709551616
  l : Lst 38 Wce.cells (fun w v => v.Li w S) w x.A x.n x.l
  n : x.n ≤ 100
  ap : 0 < x.n → ∀ a, x.A = some a → ¬ a.block ∈ S
  b : i64In x.b
  m : i64In x.m
theorem Wpr.Li.keep {w W : World} {S S' : List Nat} {x : Wpr} (h : x.Li w S) (hf : Fr S w W) (hs : ∀ k ∈ S', k < w.heap.size → k ∈ S) : x.Li W S' :=
  ⟨h.r, h.e, h.t, h.l.keep' hf h.ap (fun _ _ h => h.keep hf hs), h.n, fun hn a ha hin => h.ap hn a ha (hs _ hin (h.l.lt hn (by decide) (fun v hv => Wce.len (h.l.2.1 v hv).2.k.h) a ha)), h.b, h.m⟩
structure Wtb.Li (w : World) (S : List Nat) (x : Wtb) : Prop where
  i : i64In x.i
  l : Lst 4 Wdn.cells (fun _ v => v.Ok) w x.A x.n x.l
  n : x.n ≤ 100
  ap : 0 < x.n → ∀ a, x.A = some a → ¬ a.block ∈ S
theorem Wtb.Li.keep {w W : World} {S S' : List Nat} {x : Wtb} (h : x.Li w S) (hf : Fr S w W) (hs : ∀ k ∈ S', k < w.heap.size → k ∈ S) : x.Li W S' :=
  ⟨h.i, h.l.keep' hf h.ap (fun _ _ h => h), h.n, fun hn a ha hin => h.ap hn a ha (hs _ hin (h.l.lt hn (by decide) (fun v hv => Wdn.len v) a ha))⟩
structure Wba.Li (w : World) (S : List Nat) (x : Wba) : Prop where
  e : i64In x.e
  t : x.t < 18446744073709551616
  l : Lst 6 Wpr.cells (fun w v => v.Li w S) w x.A x.n x.l
  n : x.n ≤ 100
  ap : 0 < x.n → ∀ a, x.A = some a → ¬ a.block ∈ S
  l2 : Lst 34 Wop.cells (fun w v => v.Ok w S) w x.A2 x.n2 x.l2
  n2 : x.n2 ≤ 100
  ap2 : 0 < x.n2 → ∀ a, x.A2 = some a → ¬ a.block ∈ S
  l3 : Lst 2 Wtb.cells (fun w v => v.Li w S) w x.A3 x.n3 x.l3
  n3 : x.n3 ≤ 100
  ap3 : 0 < x.n3 → ∀ a, x.A3 = some a → ¬ a.block ∈ S
theorem Wba.Li.keep {w W : World} {S S' : List Nat} {x : Wba} (h : x.Li w S) (hf : Fr S w W) (hs : ∀ k ∈ S', k < w.heap.size → k ∈ S) : x.Li W S' :=
  ⟨h.e, h.t, h.l.keep' hf h.ap (fun _ _ h => h.keep hf hs), h.n, fun hn a ha hin => h.ap hn a ha (hs _ hin (h.l.lt hn (by decide) (fun _ _ => rfl) a ha)),
    h.l2.keep' hf h.ap2 (fun _ _ h => h.keep hf hs), h.n2, fun hn a ha hin => h.ap2 hn a ha (hs _ hin (h.l2.lt hn (by decide) (fun v hv => Wop.len (h.l2.2.1 v hv).2.h) a ha)),
    h.l3.keep' hf h.ap3 (fun _ _ h => h.keep hf hs), h.n3, fun hn a ha hin => h.ap3 hn a ha (hs _ hin (h.l3.lt hn (by decide) (fun _ _ => rfl) a ha))⟩
/-- what a part says, wherever it lies -/
abbrev Cce := Wcm × List Wst
def Wce.con (x : Wce) : Cce := (x.k, x.l)
structure Cpr where
  r : Int
  e : Int
  t : Nat
  l : List Cce
  b : Int
  m : Int
def Wpr.con (x : Wpr) : Cpr := ⟨x.r, x.e, x.t, x.l.map Wce.con, x.b, x.m⟩
structure Cop where
  i : Int
  p : List UInt8
  h : List UInt8
def Wop.con (x : Wop) : Cop := ⟨x.i, x.p, x.h⟩
structure Ctb where
  i : Int
  l : List Wdn
def Wtb.con (x : Wtb) : Ctb := ⟨x.i, x.l⟩
structure Cba where
  e : Int
  t : Nat
  l : List Cpr
  l2 : List Cop
  l3 : List Ctb
def Wba.con (x : Wba) : Cba := ⟨x.e, x.t, x.l.map Wpr.con, x.l2.map Wop.con, x.l3.map Wtb.con⟩
def pCe (s : Ps) : Cce × Ps := (((pCm s).1, (pL pSt (pCm s).2).1), (pL pSt (pCm s).2).2)
def pPr (s : Ps) : Cpr × Ps :=
  let r := pI s; let e := pI r.2; let t := pN e.2; let l := pL pCe t.2; let q := p2 l.2
  (⟨r.1, e.1, t.1, l.1, q.1.1, q.1.2⟩, q.2)
def pOp (s : Ps) : Cop × Ps := let i := pI s; let p := pR i.2; let h := pH p.2; (⟨i.1, p.1, h.1⟩, h.2)
def pTb (s : Ps) : Ctb × Ps := let i := pI s; let l := pL pDn i.2; (⟨i.1, l.1⟩, l.2)
def pBa (s : Ps) : Cba × Ps :=
  let e := pI s; let t := pN e.2; let l := pL pPr t.2; let l2 := pL pOp l.2; let l3 := pL pTb l2.2
  (⟨e.1, t.1, l.1, l2.1, l3.1⟩, l3.2)
/-- a list that a reader has made -/
structure GotL {α β : Type} (e : TypeId) (K : Nat) (cells : α → List Value) (ok : World → List Nat → α → Prop) (con : α → β) (w w' : World) (A : Option Addr) (n c : Nat) (l : List α) (r : List β) : Prop where
  own : w'.ownsRow 0 e K (.slice A n c) n (l.flatMap cells)
  len : l.length = n
  con : l.map con = r
  few : n ≤ 100
  new : ∀ q ∈ bk A, w.heap.size ≤ q
  ok : ∀ v ∈ l, ∀ S0 : List Nat, (∀ q ∈ S0, q < w.heap.size) → ok w' S0 v
end Go.Proofs.Ytlkhfhhaallhgaa

namespace Go.Proofs.Ytlkhfhhaallhgaa
open Go.RowKit
set_option maxRecDepth 100000
theorem GotL.lst {α β : Type} {e : TypeId} {K : Nat} {cells : α → List Value} {ok : World → List Nat → α → Prop} {con : α → β} {w0 w1 : World} {A : Option Addr} {n c : Nat} {l : List α} {r : List β}
    (hkeep : ∀ {w W : World} {S S' : List Nat} {x : α}, ok w S x → Fr S w W → (∀ k ∈ S', k < w.heap.size → k ∈ S) → ok W S' x) (hlen : ∀ w S v, ok w S v → (cells v).length = K)
    (h : GotL e K cells ok con w0 w1 A n c l r) {g q N : Nat} (hg : g < w0.heap.size) (hq : q < w0.heap.size) (hN : N ≤ w0.heap.size) :
    ∀ W, Fr [g, q] w1 W → ∀ S0 : List Nat, (∀ x ∈ S0, x < N) → Lst K cells (fun w v => ok w S0 v) W A n l ∧ (0 < n → ∀ a, A = some a → ¬ a.block ∈ S0) := by
  intro W hf S0 h0
  have hown := own_keep h.own hf (fun k hk hm => by
    have h1 := h.new k ((bk_mem A n c k).1 hk)
    simp at hm
    omega)
  refine ⟨Lst.of_own hown h.len (fun v hv => ?_), fun _ a ha hin => ?_⟩
  · have h1 := h.ok v hv (g :: q :: S0) (fun x hx => by
      rcases List.mem_cons.1 hx with rfl | hx
      · exact hg
      · rcases List.mem_cons.1 hx with rfl | hx
        · exact hq
        · exact Nat.lt_of_lt_of_le (h0 x hx) hN)
    exact ⟨hlen _ _ _ h1, hkeep h1 (hf.mono (fun k hk _ => by simp at hk; simp; omega)) (fun k hk _ => by simp [hk])⟩
  · have h1 := h.new a.block (by simp [bk, ha])
    have h2 := h0 _ hin
    omega
theorem pR_le (s : Ps) : (pR s).1.length ≤ 256 := by
  unfold pR rwV
  simp only
  cases dec s.1 with
  | none => simp
  | some p =>
    simp only
    split
    · rw [List.length_take]; omega
    · simp
section
variable {w : World} {F : List Nat} {g : Nat} {s : Ps}
end
def zCe : Array Value := (Wce.cells ⟨⟨0, 0, List.replicate 32 0, 0, 0, 0⟩, none, 0, 0, []⟩).toArray
def zOp : Array Value := (Wop.cells ⟨0, none, 0, 0, [], List.replicate 32 0⟩).toArray
theorem built_ceE (parts : List (Nat × Value)) : Try.prog.built 48 parts = Instr.fill ([(0, 37), (37, 1)].toArray[·]?) zCe parts := by kernel_rfl
theorem built_ceR (k : Wcm) (hh : k.h.length = 32) (A : Option Addr) (n d : Nat) (l : List Wst) :
    Try.prog.built 48 [(0, .agg k.cells.toArray), (1, .slice A n d)] = some (Wce.cells ⟨k, A, n, d, l⟩).toArray := by
  have hz : zCe.size = 38 := rfl
  have hk : k.cells.length = 37 := Wcm.len hh
  rw [built_ceE, fill_step _ _ 0 0 37 _ _ rfl (by simp [Value.cells, hk]) (by rw [hz]; omega), fill_step _ _ 1 37 1 _ _ rfl rfl (by simp [splice, zCe, Wce.cells, Wcm.cells, Value.cells, hh]), Instr.fill]
  congr 2
  have tk : ∀ n, 32 ≤ n → (k.h.map by8).take n = k.h.map by8 := fun n hn => List.take_of_length_le (by simp [hh]; omega)
  have dk : ∀ n, 32 ≤ n → (k.h.map by8).drop n = [] := fun n hn => List.drop_of_length_le (by simp [hh]; omega)
  simp [splice, zCe, Wce.cells, Wcm.cells, Value.cells, hh, List.drop_append, List.take_append, tk, dk]
end Go.Proofs.Ytlkhfhhaallhgaa

namespace Go.Proofs.Ytlkhfhhaallhgaa
open Go.RowKit
set_option maxRecDepth 100000
def pW {α : Type} (z : α) (p : Ps → α × Ps) (s : Ps) : α × Ps := (if (p s).2.2 then z else (p s).1, (p s).2)
def zWce : Wce := ⟨⟨0, 0, List.replicate 32 0, 0, 0, 0⟩, none, 0, 0, []⟩
def zWpr : Wpr := ⟨0, 0, 0, none, 0, 0, [], 0, 0⟩
def zWba : Wba := ⟨0, 0, none, 0, 0, [], none, 0, 0, [], none, 0, 0, []⟩
theorem zero_in : i64In 0 := by unfold i64In; omega
theorem zWce_ok (w : World) (S : List Nat) : zWce.Li w S := ⟨⟨zero_in, zero_in, rfl, zero_in, zero_in, zero_in⟩, Lst.nil _, by decide, fun h => absurd h (by decide)⟩
theorem zWpr_ok (w : World) (S : List Nat) : zWpr.Li w S := ⟨zero_in, zero_in, by decide, Lst.nil _, by decide, fun h => absurd h (by decide), zero_in, zero_in⟩
theorem zWba_ok (w : World) (S : List Nat) : zWba.Li w S := ⟨zero_in, by decide, Lst.nil _, by decide, fun h => absurd h (by decide), Lst.nil _, by decide, fun h => absurd h (by decide), Lst.nil _, by decide, fun h => absurd h (by decide)⟩

end Go.Proofs.Ytlkhfhhaallhgaa

namespace Go.Proofs.Ytlkhfhhaallhgaa
open Go.RowKit
set_option maxRecDepth 100000
def nst (x : Wst) : Wst := ⟨upI x.r, upI x.c, upI x.s, x.h, x.t, upI x.b, upI x.m⟩
def ncm (x : Wcm) : Wcm := ⟨upI x.c, upI x.s, x.h, upI x.n, upI x.b, upI x.m⟩
theorem nst_idem (x : Wst) : nst (nst x) = nst x := by simp [nst, upI_idem]
theorem ncm_idem (x : Wcm) : ncm (ncm x) = ncm x := by simp [ncm, upI_idem]
theorem nst_ok {x : Wst} (h : x.Ok) : (nst x).Ok := ⟨upI_in _, upI_in _, upI_in _, h.h, h.t, upI_in _, upI_in _⟩
theorem ncm_ok {x : Wcm} (h : x.Ok) : (ncm x).Ok := ⟨upI_in _, upI_in _, h.h, upI_in _, upI_in _, upI_in _⟩
theorem mix_set {α : Type} (f : α → α) (l : List α) {k : Nat} (hk : k < l.length) : ((l.take k).map f ++ l.drop k).set k (f l[k]) = (l.take (k + 1)).map f ++ l.drop (k + 1) := by
  have h1 : ((l.take k).map f).length = k := by simp; omega
  rw [List.set_append_right _ _ (by omega), h1, Nat.sub_self, List.drop_eq_getElem_cons hk, List.set_cons_zero, List.take_succ_eq_append_getElem hk, List.map_append, List.append_assoc]
  rfl
theorem mix_get {α : Type} (f : α → α) (l : List α) {k : Nat} (hk : k < l.length) : ((l.take k).map f ++ l.drop k)[k]? = some l[k] := by
  have h1 : ((l.take k).map f).length = k := by simp; omega
  rw [List.getElem?_append_right (by omega), h1, Nat.sub_self, List.drop_eq_getElem_cons hk]
  rfl
theorem mix_len {α : Type} (f : α → α) (l : List α) (k : Nat) : ((l.take k).map f ++ l.drop k).length = l.length := by simp; omega
theorem mix_mem {α : Type} (f : α → α) (l : List α) (k : Nat) {v : α} (hv : v ∈ (l.take k).map f ++ l.drop k) : v ∈ l ∨ ∃ u ∈ l, v = f u := by
  rcases List.mem_append.1 hv with h | h
  · obtain ⟨u, hu, rfl⟩ := List.mem_map.1 h
    exact .inr ⟨u, List.mem_of_mem_take hu, rfl⟩
  · exact .inl (List.mem_of_mem_drop h)
theorem row_stm : RowTy Try.prog 45 38 := ⟨by kernel_rfl, by kernel_rfl⟩
/-- one cell of a block that is known whole is stored -/
theorem wp_store_at {P : Program} {op : Oper} {a : Act} {w : World} {K : Act → World → Prop} {Q : Exit → Act → World → Prop} (ty : TypeId) (x y : Operand) (ho : op.op = .store ty x y)
    (g i : Nat) (v : Value) (hx : a.eval x = .pointer (some ⟨g, i, none⟩)) (hy : a.eval y = v) (h1 : v.oneCell' = true) (t : TypeId) (cs : Array Value) (hb : Blk w g t cs) (hi : i < cs.size) (hsz : (P.info? ty).map (·.size) = some 1)
    (h : K (a.put op.dst undef) (w.setCells g i [v])) : op.wp P a w K Q := by
  subst hy
  have hc := hb.cell i
  rw [Array.getElem?_eq_getElem hi] at hc
  have := run_storeCells_cells (P := P) g i [a.eval y] 0 w (fun j hj => by simp at hj; subst hj; simpa using (by rw [hc]; rfl : (w.cell? ⟨g, i, none⟩).isSome = true)) (fun j hj => by simp at hj; subst hj; simpa using hb.frozen i) (fun u hu => by simp at hu; subst hu; exact h1)
  have hcl : (a.eval y).cells = #[a.eval y] := by cases hv : a.eval y <;> first | rfl | (rw [hv] at h1; cases h1)
  have hrun : (storeVar ty ⟨g, i, none⟩ (a.eval y)).run P w = .ok () (w.setCells g i [a.eval y]) := by
    cases hq : P.info? ty with
    | none => simp [hq] at hsz
    | some j =>
      have hs : j.size = 1 := by simpa [hq] using hsz
      simp only [Nat.add_zero] at this
      simp [storeVar, sizeOf, typeInfo, hq, hcl, hs, this]
  unfold Oper.wp execOp
  simp only [ho, hx, Instr.storeAt, Instr.sureAddr, Sem.run_bind, Sem.run_pure, Result.andThen_ok, hrun]
  exact h
/-- a whole element is stored into a row that the call owns -/
theorem wp_store_el {P : Program} {op : Oper} {a : Act} {w : World} {K : Act → World → Prop} {Q : Exit → Act → World → Prop} (ty : TypeId) (x y : Operand) (ho : op.op = .store ty x y)
    (b o : Nat) (cs : List Value) (hx : a.eval x = .pointer (some ((⟨b, 0, none⟩ : Addr).add o))) (hy : a.eval y = .agg cs.toArray)
    (ht : w.there b o cs.length) (hi : (P.info? ty).map (·.size) = some cs.length) (h1 : cs.toArray.all (·.oneCell') = true)
    (h : K (a.put op.dst undef) (w.setCells b o cs)) : op.wp P a w K Q :=
  wp_store_mid ty x y ho b o cs.toArray (by rw [hx, add_at]) hy (by simpa using ht) (by simpa using hi) h1 (by simpa using h)
theorem wpList_store_el {P : Program} {ops : Array Oper} {rest : List Oper} {op : Oper} {a : Act} {w : World} {Q : Exit → Act → World → Prop} (hg : op.guard = none) (ty : TypeId) (x y : Operand) (ho : op.op = .store ty x y)
    (b o : Nat) (cs : List Value) (hx : a.eval x = .pointer (some ((⟨b, 0, none⟩ : Addr).add o))) (hy : a.eval y = .agg cs.toArray)
    (ht : w.there b o cs.length) (hi : (P.info? ty).map (·.size) = some cs.length) (h1 : cs.toArray.all (·.oneCell') = true)
    (h : wpList P ops Q rest (a.put op.dst undef) (w.setCells b o cs)) : wpList P ops Q (op :: rest) a w :=
  wpList_plain hg fun _ hK => wp_store_el ty x y ho b o cs hx hy ht hi h1 (hK _ _ h)
theorem blk_ce1 {w : World} {g : Nat} {t : TypeId} {k : Wcm} {c s : Int} {u : Value} (hb : Blk w g t (k.cells ++ [u]).toArray) :
    Blk (w.setCells g 0 [.int .i64 c, .int .i64 s]) g t ((⟨c, s, k.h, k.n, k.b, k.m⟩ : Wcm).cells ++ [u]).toArray :=
  Blk.mid_at [.int .i64 c, .int .i64 s] [.int .i64 k.c, .int .i64 k.s] [] (k.h.map by8 ++ [.int .i64 k.n, .int .i64 k.b, .int .i64 k.m] ++ [u]) 0 rfl rfl _ _ (by simp [Wcm.cells]) (by simp [Wcm.cells]) hb
theorem blk_ce2 {w : World} {g : Nat} {t : TypeId} {k : Wcm} (hh : k.h.length = 32) {n : Int} {u : Value} (hb : Blk w g t (k.cells ++ [u]).toArray) :
    Blk (w.setCells g 34 [.int .i64 n]) g t ((⟨k.c, k.s, k.h, n, k.b, k.m⟩ : Wcm).cells ++ [u]).toArray :=
  Blk.mid_at [.int .i64 n] [.int .i64 k.n] ([.int .i64 k.c, .int .i64 k.s] ++ k.h.map by8) ([.int .i64 k.b, .int .i64 k.m] ++ [u]) 34 (by simp [hh]) rfl _ _ (by simp [Wcm.cells]) (by simp [Wcm.cells]) hb
theorem blk_ce3 {w : World} {g : Nat} {t : TypeId} {k : Wcm} (hh : k.h.length = 32) {b m : Int} {u : Value} (hb : Blk w g t (k.cells ++ [u]).toArray) :
    Blk (w.setCells g 35 [.int .i64 b, .int .i64 m]) g t ((⟨k.c, k.s, k.h, k.n, b, m⟩ : Wcm).cells ++ [u]).toArray :=
  Blk.mid_at [.int .i64 b, .int .i64 m] [.int .i64 k.b, .int .i64 k.m] ([.int .i64 k.c, .int .i64 k.s] ++ k.h.map by8 ++ [.int .i64 k.n]) [u] 35 (by simp [hh]) rfl _ _ (by simp [Wcm.cells]) (by simp [Wcm.cells]) hb
theorem blk_st1 {w : World} {g : Nat} {t : TypeId} {x : Wst} {r : Int} (hb : Blk w g t x.cells.toArray) : Blk (w.setCells g 0 [.int .i64 r]) g t (⟨r, x.c, x.s, x.h, x.t, x.b, x.m⟩ : Wst).cells.toArray :=
  Blk.mid_at [.int .i64 r] [.int .i64 x.r] [] ([.int .i64 x.c, .int .i64 x.s] ++ (x.h.map by8 ++ [.int .u64 (x.t : Int), .int .i64 x.b, .int .i64 x.m])) 0 rfl rfl _ _ (by simp [Wst.cells]) (by simp [Wst.cells]) hb
theorem blk_st2 {w : World} {g : Nat} {t : TypeId} {x : Wst} {c s : Int} (hb : Blk w g t x.cells.toArray) : Blk (w.setCells g 1 [.int .i64 c, .int .i64 s]) g t (⟨x.r, c, s, x.h, x.t, x.b, x.m⟩ : Wst).cells.toArray :=
  Blk.mid_at [.int .i64 c, .int .i64 s] [.int .i64 x.c, .int .i64 x.s] [.int .i64 x.r] (x.h.map by8 ++ [.int .u64 (x.t : Int), .int .i64 x.b, .int .i64 x.m]) 1 rfl rfl _ _ (by simp [Wst.cells]) (by simp [Wst.cells]) hb
theorem blk_st3 {w : World} {g : Nat} {t : TypeId} {x : Wst} (hh : x.h.length = 32) {b m : Int} (hb : Blk w g t x.cells.toArray) : Blk (w.setCells g 36 [.int .i64 b, .int .i64 m]) g t (⟨x.r, x.c, x.s, x.h, x.t, b, m⟩ : Wst).cells.toArray :=
  Blk.mid_at [.int .i64 b, .int .i64 m] [.int .i64 x.b, .int .i64 x.m] ([.int .i64 x.r, .int .i64 x.c, .int .i64 x.s] ++ x.h.map by8 ++ [.int .u64 (x.t : Int)]) [] 36 (by simp [hh]) rfl _ _ (by simp [Wst.cells]) (by simp [Wst.cells]) hb

end Go.Proofs.Ytlkhfhhaallhgaa

namespace Go.Proofs.Ytlkhfhhaallhgaa
open Go.RowKit
set_option maxRecDepth 100000
def zeroOp : Array Value := (opnCells 0 none 0 0 (List.replicate 32 0)).toArray
end Go.Proofs.Ytlkhfhhaallhgaa

namespace Go.Proofs.Ytlkhfhhaallhgaa
open Go.RowKit
set_option maxRecDepth 100000
theorem part_row (ty : TypeId) (n off : Nat) (xs ys zs : List Value) (h : RowTy Try.prog ty n) (hx : xs.length = off) (hy : ys.length = n) (w : World) : (part ty (xs ++ (ys ++ zs)).toArray off).run Try.prog w = .ok (.agg ys.toArray) w := by
  obtain ⟨h1, h2⟩ := h
  cases hu : Try.prog.underlying ty with
  | none => rw [hu] at h1; cases h1
  | some d =>
    rw [hu] at h1
    cases hi : Try.prog.info? ty with
    | none => rw [hi] at h2; cases h2
    | some i =>
      have hs : i.size = n := by simpa [hi] using h2
      have hagg : (isAgg ty).run Try.prog w = .ok true w := by
        unfold isAgg
        rw [Sem.run_bind, run_underlying hu w]
        cases d <;> simp_all
      unfold part
      simp [hagg, sizeOf, typeInfo, hi, hs]
      subst hx
      subst hy
      simp
theorem hash_selfd (xs : List UInt8) (hx : xs.length = 32) (d : Nat) (w : World) :
    (Op.equalIn (d + 2) 35 (.agg (xs.map by8).toArray) (.agg (xs.map by8).toArray)).run Try.prog w = .ok true w := by
  have h := run_equalIn_bytes (P := Try.prog) w d 35 5 32 Try.underlying35 Try.underlying5 u8_size1 xs xs hx hx
  rw [show (xs == xs) = true by simp] at h
  exact h
theorem int_selfd (z : Int) (d : Nat) (w : World) : (Op.equalIn (d + 1) 3 (.int .i64 z) (.int .i64 z)).run Try.prog w = .ok true w := by
  have h := run_equalIn_int (P := Try.prog) w d 3 .i64 .i64 z z Try.underlying3
  rw [show (z == z) = true by simp] at h
  exact h
theorem stood (t : TypeId) (h : Try.prog.stoodInHeld t = false) : Try.prog.stoodInHeld t = false := h
set_option maxHeartbeats 1000000 in
theorem name_selfd (a b : Int) (d : Nat) (w : World) : (Op.equalIn (d + 2) 23 (.agg #[.int .i64 a, .int .i64 b]) (.agg #[.int .i64 a, .int .i64 b])).run Try.prog w = .ok true w := by
  have h1 := int_selfd a d w
  have h2 := int_selfd b d w
  rw [run_equalIn_struct w (d + 1) 23 _ _ (by kernel_rfl) (by kernel_rfl)]
  go_simp
theorem sig_selfd (a b : Int) (d : Nat) (w : World) : (Op.equalIn (d + 2) 37 (.agg #[.int .i64 a, .int .i64 b]) (.agg #[.int .i64 a, .int .i64 b])).run Try.prog w = .ok true w := by
  have h1 := int_selfd a d w
  have h2 := int_selfd b d w
  rw [run_equalIn_struct w (d + 1) 37 _ _ (by kernel_rfl) (by kernel_rfl)]
  go_simp
theorem part_one (off : Nat) (cs : Array Value) (v : Value) (hv : cs[off]? = some v) (w : World) : (part 3 cs off).run Try.prog w = .ok v w :=
  run_part_plain w (by kernel_rfl) hv
theorem eqFields_step {P : Program} {d : Nat} {xs : Array Value} {f : Field} {fs : List Field} {v : Value} {w : World} (hn : f.name ≠ "_") (p : (part f.type xs f.offset).run P w = .ok v w) (q : (Op.equalIn d f.type v v).run P w = .ok true w) :
    (Op.eqFields d xs xs (f :: fs)).run P w = (Op.eqFields d xs xs fs).run P w := by
  rw [Op.eqFields, if_pos hn]
  simp only [Sem.run_bind, p, Result.andThen_ok, q]
  simp
theorem commit_self (x : Cm) (hh : x.h.length = 32) (w : World) : (Op.equalIn 10000 39 (.agg x.cells.toArray) (.agg x.cells.toArray)).run Try.prog w = .ok true w := by
  have hl : (x.h.map by8).length = 32 := by rw [List.length_map]; exact hh
  have p0 := part_row 23 2 0 [] [.int .i64 x.c, .int .i64 x.s] (x.h.map by8 ++ [.int .i64 x.n, .int .i64 x.b, .int .i64 x.m]) row_name rfl rfl w
  have p1 := part_row 35 32 2 [.int .i64 x.c, .int .i64 x.s] (x.h.map by8) [.int .i64 x.n, .int .i64 x.b, .int .i64 x.m] row_hash rfl hl w
  have p3 := part_row 37 2 35 ([.int .i64 x.c, .int .i64 x.s] ++ x.h.map by8 ++ [.int .i64 x.n]) [.int .i64 x.b, .int .i64 x.m] [] row_sig (by simp [hh]) rfl w
  have e1 : [] ++ ([.int .i64 x.c, .int .i64 x.s] ++ (x.h.map by8 ++ [.int .i64 x.n, .int .i64 x.b, .int .i64 x.m])) = x.cells := rfl
  have e2 : [.int .i64 x.c, .int .i64 x.s] ++ (x.h.map by8 ++ [.int .i64 x.n, .int .i64 x.b, .int .i64 x.m]) = x.cells := rfl
  have e3 : ([.int .i64 x.c, .int .i64 x.s] ++ x.h.map by8 ++ [.int .i64 x.n]) ++ ([.int .i64 x.b, .int .i64 x.m] ++ []) = x.cells := by simp [Cm.cells]
  rw [e1] at p0
  rw [e2] at p1
  rw [e3] at p3
  have h4 : x.cells.toArray[34]? = some (.int .i64 x.n) := by
    rw [List.getElem?_toArray, ← e3, List.getElem?_append_left (by simp [hh]), List.getElem?_append_right (by simp [hh])]; simp [hh]
  have p2 := part_one 34 x.cells.toArray _ h4 w
  have q0 : (Op.equalIn 9999 23 (.agg #[.int .i64 x.c, .int .i64 x.s]) (.agg #[.int .i64 x.c, .int .i64 x.s])).run Try.prog w = .ok true w := name_selfd x.c x.s 9997 w
  have q1 : (Op.equalIn 9999 35 (.agg (x.h.map by8).toArray) (.agg (x.h.map by8).toArray)).run Try.prog w = .ok true w := hash_selfd x.h hh 9997 w
  have q2 : (Op.equalIn 9999 3 (.int .i64 x.n) (.int .i64 x.n)).run Try.prog w = .ok true w := int_selfd x.n 9998 w
  have q3 : (Op.equalIn 9999 37 (.agg #[.int .i64 x.b, .int .i64 x.m]) (.agg #[.int .i64 x.b, .int .i64 x.m])).run Try.prog w = .ok true w := sig_selfd x.b x.m 9997 w
  clear e1 e2 e3 h4
  generalize x.cells.toArray = C at *
  rw [run_equalIn_struct w 9999 39 _ _ (by kernel_rfl) (by kernel_rfl)]
  have hfs : (Try.prog.fieldsOf 39).toList.map (fun f => (f.type, f.offset, f.name == "_")) = [(23, 0, false), (35, 2, false), (3, 34, false), (37, 35, false)] := by kernel_rfl
  generalize (Try.prog.fieldsOf 39).toList = fs at *
  have hl4 : fs.length = 4 := by have := congrArg List.length hfs; simpa using this
  match fs, hl4, hfs with
  | [a, b, c, d], _, hfs =>
    simp only [List.map_cons, List.map_nil, List.cons.injEq, Prod.mk.injEq, beq_eq_false_iff_ne, and_true] at hfs
    obtain ⟨⟨a1, a2, a3⟩, ⟨b1, b2, b3⟩, ⟨c1, c2, c3⟩, ⟨d1, d2, d3⟩⟩ := hfs
    rw [eqFields_step a3 (by rw [a1, a2]; exact p0) (by rw [a1]; exact q0), eqFields_step b3 (by rw [b1, b2]; exact p1) (by rw [b1]; exact q1), eqFields_step c3 (by rw [c1, c2]; exact p2) (by rw [c1]; exact q2), eqFields_step d3 (by rw [d1, d2]; exact p3) (by rw [d1]; exact q3)]
    rfl
end Go.Proofs.Ytlkhfhhaallhgaa

namespace Go.Proofs.Ytlkhfhhaallhgaa
open Go.RowKit
set_option maxRecDepth 100000
theorem map_at {α β : Type} {f : α → β} {l m : List α} {j : Nat} {v u : α} (h : l.map f = m.map f) (hv : l[j]? = some v) (hu : m[j]? = some u) : f v = f u := by
  have h1 := congrArg (·[j]?) h
  simpa [hv, hu] using h1
theorem eq_Wcm (x : Wcm) (hh : x.h.length = 32) (w : World) : (Op.equalIn 10000 39 (.agg x.cells.toArray) (.agg x.cells.toArray)).run Try.prog w = .ok true w := commit_self ⟨x.c, x.s, x.h, x.n, x.b, x.m⟩ hh w
theorem Wce.Ok.li {w : World} {S : List Nat} {x : Wce} (h : x.Ok w S) : x.Li w S := ⟨h.k, h.l, Nat.le_trans h.n (by omega), h.ap⟩
theorem Wtb.Ok.li {w : World} {S : List Nat} {x : Wtb} (h : x.Ok w S) : x.Li w S := ⟨h.i, h.l, Nat.le_trans h.n (by omega), h.ap⟩
theorem Wpr.Ok.li {w : World} {S : List Nat} {x : Wpr} (h : x.Ok w S) : x.Li w S := ⟨h.r, h.e, h.t, ⟨h.l.1, fun v hv => ⟨(h.l.2.1 v hv).1, (h.l.2.1 v hv).2.li⟩, h.l.2.2⟩, Nat.le_trans h.n (by omega), h.ap, h.b, h.m⟩
theorem Wba.Ok.li {w : World} {S : List Nat} {x : Wba} (h : x.Ok w S) : x.Li w S := ⟨h.e, h.t, ⟨h.l.1, fun v hv => ⟨(h.l.2.1 v hv).1, (h.l.2.1 v hv).2.li⟩, h.l.2.2⟩, Nat.le_trans h.n (by omega), h.ap, h.l2, Nat.le_trans h.n2 (by omega), h.ap2, ⟨h.l3.1, fun v hv => ⟨(h.l3.2.1 v hv).1, (h.l3.2.1 v hv).2.li⟩, h.l3.2.2⟩, Nat.le_trans h.n3 (by omega), h.ap3⟩

set_option maxHeartbeats 4000000 in
theorem stamps_eq (A B : Option Addr) (n d d' : Nat) (l m : List Wst) (w : World) (hl : Lst 38 Wst.cells (fun _ v => v.Ok) w A n l) (hm : Lst 38 Wst.cells (fun _ v => v.Ok) w B n m) (hlm : l.map id = m.map id) (hn : n ≤ 1000) :
    Calls Try.prog 32 #[.slice A n d, .slice B n d'] w fun e w' => e = .returned (.bool true) ∧ Fr [] w w' := by
  have HL := Lib.hid hl
  have HM := Lib.hid hm
  have HLM := Lib.hid hlm
  have HN := Lib.hid hn
  have hn1 : (n : Int) ≤ 9223372036854775807 := by omega
  have hnn : ((n : Int) != (n : Int)) = false := by simp
  clear hl hm hn hlm
  go_enter Try.func32, Try.ntmps32
  go_wp2_with fail
  clear hnn
  go_loopw [5] (fun i wr => ∃ j : Nat, j ≤ n ∧ i = .int .i64 j ∧ Hid (Fr [] w wr)) (fun i _ => n - (intOf i).toNat)
  case atStart => exact ⟨0, by omega, rfl, Lib.hid (Fr.refl _ _)⟩
  case round =>
    obtain ⟨j, hj, rfl, HF⟩ := hrel
    by_cases hlt : j < n
    · obtain ⟨ad, v, hA, hv, hcl, hok, hcells⟩ := HL.out.at (i := j) hlt
      obtain ⟨bd, u, hB, hu, hclu, hoku, hcellu⟩ := HM.out.at (i := j) hlt
      subst hA
      subst hB
      have HVU := Lib.hid (map_at HLM.out hv hu)
      have HCELLS : Hid (∀ i c, (Wst.cells v)[i]? = some c → wr.cell? ((ad.add (j * 38)).add i) = some c) := Lib.hid (fun i c hc => HF.out.cell (hcells i c hc) (by simp))
      have HCELLU : Hid (∀ i c, (Wst.cells u)[i]? = some c → wr.cell? ((bd.add (j * 38)).add i) = some c) := Lib.hid (fun i c hc => HF.out.cell (hcellu i c hc) (by simp))
      have HCL := Lib.hid hcl
      have HCLU := Lib.hid hclu
      have HOK := Lib.hid hok
      have HOKU := Lib.hid hoku
      have HJN := Lib.hid hlt
      have hj0 : (0 : Int) ≤ j := by omega
      clear hcells hcl hok hv hcellu hclu hoku hu
      have hvu : v = u := HVU.out
      subst hvu
      have HEQ : Hid (∀ W : World, (Op.equalIn 10000 45 (.agg v.cells.toArray) (.agg v.cells.toArray)).run Try.prog W = .ok true W) := Lib.hid (fun W => by have h := eql_Wst v v HOK.out.h HOK.out.h W; rw [(Wst.eqB_iff v v).2 rfl] at h; exact h)
      go_upto_region 6 with (fail)
      refine wp_region_held_drew (S := Fr [] wr) (by kernel_rfl) (Fr.drew (Fr.refl _ wr)) (fun hHeld => ?_)
      generalize wr.drew = w9 at *
      refine run_at (i := 0) (v := ?_) rfl (by kernel_rfl) (by rfl) (fun _ _ _ h => h) hHeld (fun w1 hw1 => ?_) ?_
      rotate_left 1
      · skip
        go_simp
        (try (first | with_reducible rfl | (apply And.intro <;> rfl)))
      simp only [Act.put, List.setIfInBounds_toArray, List.set_cons_zero, List.set_cons_succ]
      refine run_at (i := 1) (v := ?_) rfl (by kernel_rfl) (by rfl) (fun _ _ _ h => h) hHeld (fun w1 hw1 => ?_) ?_
      rotate_left 1
      · skip
        go_simp
        (try (first | with_reducible rfl | (apply And.intro <;> rfl)))
      simp only [Act.put, List.setIfInBounds_toArray, List.set_cons_zero, List.set_cons_succ]
      refine run_at (i := 2) (v := ?_) rfl (by kernel_rfl) (by rfl) (fun _ _ _ h => h) hHeld (fun w1 hw1 => ?_) ?_
      rotate_left 1
      · skip
        go_simp
        (try (first | with_reducible rfl | (apply And.intro <;> rfl)))
      simp only [Act.put, List.setIfInBounds_toArray, List.set_cons_zero, List.set_cons_succ]
      refine crow_at (i := 3) rfl (by kernel_rfl) (by rfl) _ _ rfl _ rfl _ (fun w1 hw1 j v hv => hw1.cell ((HCELLS.out) j v hv) (by simp)) (row_stm.of HCL.out) (fun _ _ _ h => h) hHeld ?_
      simp only [Act.put, List.setIfInBounds_toArray, List.set_cons_zero, List.set_cons_succ]
      refine run_at (i := 4) (v := ?_) rfl (by kernel_rfl) (by rfl) (fun _ _ _ h => h) hHeld (fun w1 hw1 => ?_) ?_
      rotate_left 1
      · skip
        go_simp
        (try (first | with_reducible rfl | (apply And.intro <;> rfl)))
      simp only [Act.put, List.setIfInBounds_toArray, List.set_cons_zero, List.set_cons_succ]
      refine run_at (i := 5) (v := ?_) rfl (by kernel_rfl) (by rfl) (fun _ _ _ h => h) hHeld (fun w1 hw1 => ?_) ?_
      rotate_left 1
      · skip
        go_simp
        (try (first | with_reducible rfl | (apply And.intro <;> rfl)))
      simp only [Act.put, List.setIfInBounds_toArray, List.set_cons_zero, List.set_cons_succ]
      refine run_at (i := 6) (v := ?_) rfl (by kernel_rfl) (by rfl) (fun _ _ _ h => h) hHeld (fun w1 hw1 => ?_) ?_
      rotate_left 1
      · skip
        go_simp
        (try (first | with_reducible rfl | (apply And.intro <;> rfl)))
      simp only [Act.put, List.setIfInBounds_toArray, List.set_cons_zero, List.set_cons_succ]
      refine crow_at (i := 7) rfl (by kernel_rfl) (by rfl) _ _ rfl _ rfl _ (fun w1 hw1 j v hv => hw1.cell ((HCELLU.out) j v hv) (by simp)) (row_stm.of HCLU.out) (fun _ _ _ h => h) hHeld ?_
      simp only [Act.put, List.setIfInBounds_toArray, List.set_cons_zero, List.set_cons_succ]
      refine neq_at (i := 8) rfl (by kernel_rfl) (by rfl) _ _ _ _ rfl _ _ rfl rfl _ (by kernel_rfl) (HEQ.out) (fun _ _ _ h => h) hHeld ?_
      simp only [Act.put, List.setIfInBounds_toArray, List.set_cons_zero, List.set_cons_succ]
      refine wpAnyH_done (by kernel_rfl) ?_ _
      have HF9 : Hid (Fr [] w w9) := Lib.hid (HF.out.and hHeld (by simp))
      clear hHeld HCELLS HCL HCELLU HCLU HVU
      clear HOK HOKU
      go_wp2
      go_roundw
      case rel => exact ⟨j + 1, by have := HJN.out; omega, by go_num, HF9⟩
      case measure => have := HJN.out; simp [intOf]; omega
    · have hjn : n = j := by omega
      subst hjn
      clear hlt hj
      go_wp2
      go_ret
      exact ⟨rfl, HF.out⟩

set_option maxHeartbeats 2000000 in
theorem cert_eq (x y : Wce) (w : World) (hx : x.Li w []) (hy : y.Li w []) (he : x.con = y.con) (C D : List Value) (hC : x.cells = C) (hD : y.cells = D) :
    Calls Try.prog 15 #[.agg C.toArray, .agg D.toArray] w fun e w' => e = .returned (.bool true) ∧ Fr [] w w' := by
  obtain ⟨wa, hwa⟩ : ∃ wa, wa = (w.alloc (Obj.cells C.toArray 48)).alloc (Obj.cells D.toArray 48) := ⟨_, rfl⟩
  have hf0 : Fr [] w wa := by rw [hwa]; exact ((Fr.refl [] w).alloc _).alloc _
  have hb0 : Blk wa w.heap.size 48 x.cells.toArray := by rw [hwa, hC]; exact blk_alloc (Blk.new _ _ _)
  have hb1 : Blk wa (w.heap.size + 1) 48 y.cells.toArray := by
    have := Blk.new (w.alloc (Obj.cells C.toArray 48)) 48 D.toArray
    rw [hwa, hD]
    simpa using this
  obtain ⟨k, A, n, d, l⟩ := x
  obtain ⟨k', B, m, d', l'⟩ := y
  unfold Wce.con at he
  simp only [Prod.mk.injEq] at he
  obtain ⟨rfl, rfl⟩ := he
  have hnm : m = n := hy.l.1.symm.trans hx.l.1
  subst hnm
  have hr0 := hb0.range
  have hr1 := hb1.range
  have HKL : Hid (k.cells.length = 37) := Lib.hid (Wcm.len hx.k.h)
  have h01 : wa.cell? ⟨w.heap.size, 37, none⟩ = some (.slice A m d) := by have h := hr0 37 (.slice A m d) (by simp [Wce.cells, HKL.out]); simpa using h
  have h11 : wa.cell? ⟨w.heap.size + 1, 37, none⟩ = some (.slice B m d') := by have h := hr1 37 (.slice B m d') (by simp [Wce.cells, HKL.out]); simpa using h
  have HH0 : Hid (wa.rangeAt w.heap.size 0 k.cells) := Lib.hid (rangeAt_sub (o := 0) (xs := []) (ys := k.cells) (zs := [.slice A m d]) hr0)
  have HH1 : Hid (wa.rangeAt (w.heap.size + 1) 0 k.cells) := Lib.hid (rangeAt_sub (o := 0) (xs := []) (ys := k.cells) (zs := [.slice B m d']) hr1)
  have HEQ : Hid ((Op.equalIn 10000 39 (.agg k.cells.toArray) (.agg k.cells.toArray)).run Try.prog wa = .ok true wa) := Lib.hid (eq_Wcm k hx.k.h wa)
  have HF0 := Lib.hid hf0
  have HWA := Lib.hid hwa
  have HX := Lib.hid hx
  have HY := Lib.hid hy
  clear hwa hf0 hb0 hb1 hr0 hr1 hx hy hC hD
  generalize hKC : k.cells = KC at *
  clear hKC
  go_enter Try.func15, Try.ntmps15
  go_upto_region 1 with (fail)
  change Code.wp _ _ _ _ ((w.alloc (Obj.cells C.toArray 48)).alloc (Obj.cells D.toArray 48))
  rw [← HWA.out]
  go_wp2_with (first
    | (refine wpList_midg rfl 39 _ rfl w.heap.size 0 rfl KC HH0.out (row_cmt.of HKL.out) ?_)
    | (refine wpList_midg rfl 39 _ rfl (w.heap.size + 1) 0 rfl KC HH1.out (row_cmt.of HKL.out) ?_)
    | (refine wpList_eqlg rfl 39 _ _ _ rfl KC.toArray KC.toArray rfl rfl true (by kernel_rfl) HEQ.out ?_))
  refine (stamps_eq A B m d d' l l wa (HX.out.l.keep' HF0.out (by simp) (fun _ _ h => h)) (HY.out.l.keep' HF0.out (by simp) (fun _ _ h => h)) rfl (by have h1 : m ≤ 100 := HX.out.n; omega)).mono ?_
  rintro e w1 ⟨rfl, hf1⟩
  have HF1 : Hid (Fr [] w w1) := Lib.hid (HF0.out.and hf1 (by simp))
  clear hf1 h01 h11
  go_wp2
  go_ret
  exact ⟨rfl, HF1.out⟩

end Go.Proofs.Ytlkhfhhaallhgaa

namespace Go.Proofs.Ytlkhfhhaallhgaa
open Go.RowKit Go.Sort
set_option maxRecDepth 100000

/-- numbers as keys -/
def intKey : KeyKind Try.prog 3 Int where
  val := fun z => .int .i64 z
  lit := fun z => .int .i64 z
  ok := i64In
  keyed := Maps.int_keyed Try.underlying3
  key := fun _ h => Maps.keyOf_int_mk Try.underlying3 (wf_i64 h)
  inj := fun x y h => by simpa using h
/-- is this one left out, where o are there? -/
def foeB (F : Int) (k : Wcm) (o : List Wst) (s : Wst) : Bool := o.any (fun y => decide (y.r = s.r)) || (!ofB s k || !hasB F s.r)
def foeStep (F : Int) (k : Wcm) (o : List Wst) (s : Wst) : List Wst := if foeB F k o s then o else o ++ [s]
def foe (F : Int) (k : Wcm) (l : List Wst) : List Wst := l.foldl (foeStep F k) []
/-- the first stamp of replica r -/
def fst1 (k : Wcm) (l : List Wst) (r : Int) : Option Wst := l.find? (fun s => decide (s.r = r) && ofB s k)
theorem foe_snoc (F : Int) (k : Wcm) (l : List Wst) (s : Wst) : foe F k (l ++ [s]) = foeStep F k (foe F k l) s := by unfold foe; simp
theorem fst1_snoc (k : Wcm) (l : List Wst) (s : Wst) (r : Int) : fst1 k (l ++ [s]) r = (fst1 k l r).or (if decide (s.r = r) && ofB s k then some s else none) := by
  unfold fst1
  rw [List.find?_append]
  simp only [List.find?_cons, List.find?_nil]
  cases (decide (s.r = r) && ofB s k) <;> rfl
theorem fst1_r {k : Wcm} {l : List Wst} {r : Int} {s : Wst} (h : fst1 k l r = some s) : s.r = r ∧ ofB s k = true ∧ s ∈ l := by
  have h1 := List.find?_some h
  simp only [Bool.and_eq_true, decide_eq_true_eq] at h1
  exact ⟨h1.1, h1.2, List.mem_of_find?_eq_some h⟩
theorem rev_ind {α : Type} {P : List α → Prop} (h0 : P []) (h1 : ∀ l x, P l → P (l ++ [x])) (l : List α) : P l := by
  have h : ∀ n (l : List α), l.length = n → P l := by
    intro n
    induction n with
    | zero => intro l hl; rw [List.eq_nil_of_length_eq_zero hl]; exact h0
    | succ n ih =>
      intro l hl
      have hne : l ≠ [] := by rintro rfl; simp at hl
      rw [← List.dropLast_concat_getLast hne]
      exact h1 _ _ (ih _ (by simp [hl]))
  exact h _ l rfl
/-- which they are -/
theorem foe_mem (F : Int) (k : Wcm) (l : List Wst) : ∀ s, s ∈ foe F k l ↔ hasB F s.r = true ∧ fst1 k l s.r = some s := by
  induction l using rev_ind with
  | h0 => intro s; simp [foe, fst1]
  | h1 l x ih =>
    intro s
    rw [foe_snoc, fst1_snoc]
    have hany : (foe F k l).any (fun y => decide (y.r = x.r)) = true ↔ hasB F x.r = true ∧ (fst1 k l x.r).isSome = true := by
      rw [List.any_eq_true]
      constructor
      · rintro ⟨y, hy, hyr⟩
        have hyr := of_decide_eq_true hyr
        have := (ih y).1 hy
        rw [hyr] at this
        exact ⟨this.1, by rw [this.2]; rfl⟩
      · rintro ⟨h1, h2⟩
        obtain ⟨y, hy⟩ := Option.isSome_iff_exists.1 h2
        have hr := fst1_r hy
        exact ⟨y, (ih y).2 ⟨by rw [hr.1]; exact h1, by rw [hr.1]; exact hy⟩, by simp [hr.1]⟩
    unfold foeStep foeB
    by_cases hb : ((foe F k l).any (fun y => decide (y.r = x.r)) || (!ofB x k || !hasB F x.r)) = true
    · rw [if_pos hb, ih]
      constructor
      · rintro ⟨h1, h2⟩
        exact ⟨h1, by rw [h2]; rfl⟩
      · rintro ⟨h1, h2⟩
        refine ⟨h1, ?_⟩
        rcases hf : fst1 k l s.r with _ | y
        · exfalso
          rw [hf] at h2
          simp only [Option.none_or] at h2
          split at h2
          · rename_i hx
            simp only [Bool.and_eq_true, decide_eq_true_eq] at hx
            injection h2 with h2
            subst h2
            simp only [Bool.or_eq_true, hany, hx.2, h1, hf] at hb
            simp at hb
          · cases h2
        · rw [hf] at h2
          simpa using h2
    · rw [if_neg hb, List.mem_append, ih, List.mem_singleton]
      simp only [Bool.or_eq_true, not_or, hany, Bool.not_eq_true', Bool.not_eq_true, Bool.not_eq_false'] at hb
      obtain ⟨hb1, hb2, hb3⟩ := hb
      have hb2 : ofB x k = true := by simpa using hb2
      have hb3 : hasB F x.r = true := by simpa using hb3
      constructor
      · rintro (⟨h1, h2⟩ | rfl)
        · exact ⟨h1, by rw [h2]; rfl⟩
        · refine ⟨hb3, ?_⟩
          rcases hf : fst1 k l s.r with _ | y
          · simp [hb2]
          · exact absurd ⟨hb3, by rw [hf]; rfl⟩ hb1
      · rintro ⟨h1, h2⟩
        rcases hf : fst1 k l s.r with _ | y
        · right
          rw [hf] at h2
          simp only [Option.none_or] at h2
          split at h2
          · injection h2 with h2; exact h2.symm
          · cases h2
        · left
          rw [hf] at h2
          simp only [Option.some_or] at h2
          exact ⟨h1, h2⟩
theorem foe_apart (F : Int) (k : Wcm) (l : List Wst) : (foe F k l).Pairwise (fun a b => a.r ≠ b.r) := by
  induction l using rev_ind with
  | h0 => exact List.Pairwise.nil
  | h1 l x ih =>
    rw [foe_snoc]
    unfold foeStep foeB
    split
    · exact ih
    · rename_i hb
      rw [List.pairwise_append]
      refine ⟨ih, List.pairwise_singleton _ _, fun a ha b hbb => ?_⟩
      rw [List.mem_singleton] at hbb
      subst hbb
      intro hab
      apply hb
      have : (foe F k l).any (fun y => decide (y.r = b.r)) = true := List.any_eq_true.2 ⟨a, ha, by simp [hab]⟩
      rw [this]; rfl
theorem foe_len (F : Int) (k : Wcm) (l : List Wst) : (foe F k l).length ≤ l.length := by
  induction l using rev_ind with
  | h0 => exact Nat.le_refl _
  | h1 l x ih =>
    rw [foe_snoc]
    unfold foeStep
    split
    · simp; omega
    · simp; omega
theorem foe_sub (F : Int) (k : Wcm) (l : List Wst) : ∀ s ∈ foe F k l, s ∈ l := fun s hs => (fst1_r ((foe_mem F k l s).1 hs).2).2.2
/-- the first ones of replicas 0 to m -/
def refL (k : Wcm) (l : List Wst) (m : Nat) : List Wst := (List.range m).filterMap (fun (r : Nat) => fst1 k l (r : Int))
theorem refL_succ (k : Wcm) (l : List Wst) (m : Nat) : refL k l (m + 1) = refL k l m ++ (fst1 k l (m : Int)).toList := by
  unfold refL
  rw [List.range_succ, List.filterMap_append]
  congr 1
theorem refL_mem (k : Wcm) (l : List Wst) (m : Nat) (s : Wst) : s ∈ refL k l m ↔ 0 ≤ s.r ∧ s.r < m ∧ fst1 k l s.r = some s := by
  unfold refL
  rw [List.mem_filterMap]
  constructor
  · rintro ⟨r, hr, h⟩
    have h1 := (fst1_r h).1
    have h2 := List.mem_range.1 hr
    refine ⟨by omega, by omega, by rw [h1]; exact h⟩
  · rintro ⟨h1, h2, h3⟩
    refine ⟨s.r.toNat, List.mem_range.2 (by omega), ?_⟩
    rw [Int.toNat_of_nonneg h1]
    exact h3
theorem refL_rise (k : Wcm) (l : List Wst) (m : Nat) : (refL k l m).Pairwise (fun a b => a.r < b.r) := by
  induction m with
  | zero => exact List.Pairwise.nil
  | succ m ih =>
    rw [refL_succ, List.pairwise_append]
    refine ⟨ih, ?_, fun a ha b hb => ?_⟩
    · cases fst1 k l (m : Int) <;> simp
    · have h1 := (refL_mem k l m a).1 ha
      rcases hf : fst1 k l (m : Int) with _ | y
      · rw [hf] at hb; cases hb
      · rw [hf] at hb
        have hby : b = y := by simpa using hb
        subst hby
        have := (fst1_r hf).1
        omega
theorem rise_eq : ∀ {a b : List Wst}, a.Pairwise (fun x y => x.r < y.r) → b.Pairwise (fun x y => x.r < y.r) → (∀ s, s ∈ a ↔ s ∈ b) → a = b
  | [], [], _, _, _ => rfl
  | [], y :: b, _, _, h => absurd ((h y).2 (by simp)) (by simp)
  | x :: a, [], _, _, h => absurd ((h x).1 (by simp)) (by simp)
  | x :: a, y :: b, ha, hb, h => by
    rw [List.pairwise_cons] at ha hb
    have hxy : x = y := by
      rcases List.mem_cons.1 ((h x).1 (by simp)) with hx | hx
      · exact hx
      · rcases List.mem_cons.1 ((h y).2 (by simp)) with hy | hy
        · exact hy.symm
        · have h1 := hb.1 x hx
          have h2 := ha.1 y hy
          omega
    subst hxy
    congr 1
    refine rise_eq ha.2 hb.2 (fun s => ?_)
    constructor
    · intro hs
      rcases List.mem_cons.1 ((h s).1 (List.mem_cons_of_mem _ hs)) with hx | hx
      · subst hx; have := ha.1 s hs; omega
      · exact hx
    · intro hs
      rcases List.mem_cons.1 ((h s).2 (List.mem_cons_of_mem _ hs)) with hx | hx
      · subst hx; have := hb.1 s hs; omega
      · exact hx
/-- put in order they are the first ones of each replica -/
theorem foe_order {F : Int} {k : Wcm} {l d : List Wst} {N : Nat} (hF : 3 * F + 1 = (N : Int)) (hp : d.Perm (foe F k l)) (hs : d.Pairwise (fun a b => a.r ≤ b.r)) : d = refL k l N := by
  have hap : d.Pairwise (fun a b => a.r ≠ b.r) := hp.symm.pairwise (foe_apart F k l) (fun h => h.symm)
  refine rise_eq ((hs.and hap).imp (fun h => by omega)) (refL_rise k l N) (fun s => ?_)
  rw [hp.mem_iff, foe_mem, refL_mem]
  unfold hasB
  rw [decide_eq_true_eq]
  constructor
  · rintro ⟨⟨h1, h2⟩, h3⟩; exact ⟨h1, by omega, h3⟩
  · rintro ⟨h1, h2, h3⟩; exact ⟨⟨h1, by omega⟩, h3⟩
theorem refL_take {k : Wcm} {l : List Wst} {a b : Nat} (hab : a ≤ b) : (refL k l b).take (refL k l a).length = refL k l a := by
  induction b with
  | zero => rw [show a = 0 by omega, List.take_length]
  | succ b ih =>
    rcases Nat.lt_or_ge a (b + 1) with h | h
    · rw [refL_succ, List.take_append_of_le_length, ih (by omega)]
      have := congrArg List.length (ih (by omega))
      rw [List.length_take] at this
      omega
    · rw [show a = b + 1 by omega, List.take_length]
/-- the keys of the map -/
def keyL (o : List Wst) : List (Int × Value) := o.map (fun y => (y.r, Value.agg #[]))
theorem keyL_look (o : List Wst) (r : Int) : (keyL o).lookup r = if o.any (fun y => decide (y.r = r)) then some (Value.agg #[]) else none := by
  induction o with
  | nil => rfl
  | cons y o ih =>
    unfold keyL at ih ⊢
    rw [List.map_cons, List.lookup_cons, ih, List.any_cons]
    by_cases h : y.r = r
    · subst h; simp
    · have h1 : (r == y.r) = false := by simp; exact fun e => h e.symm
      simp [h1, h]
theorem keyL_snoc (o : List Wst) (s : Wst) : keyL (o ++ [s]) = keyL o ++ [(s.r, Value.agg #[])] := by unfold keyL; simp
end Go.Proofs.Ytlkhfhhaallhgaa
