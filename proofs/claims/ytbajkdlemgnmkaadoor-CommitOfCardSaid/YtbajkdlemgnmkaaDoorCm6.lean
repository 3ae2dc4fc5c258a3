/- Package commit: the document's example (wakes). -/
import Derived.Test.YtbajkdlemgnmkaaDoorCm5
namespace Go.Proofs.YtbajkdlemgnmkaaDoor
open Go.RowKit
set_option maxRecDepth 100000

theorem made_ok (c s : Int) (hc : 0 ≤ c ∧ c < 1099511627776) (hs : i64In s) (h b : List UInt8) (hb : b.length ≤ 1000000) (l : List Ent) (hl : l.length < 1048576) : (made c s h b l).Ok := by
  refine ⟨⟨by show _ ≤ c; omega, by show c < _; omega⟩, hs, sumL_len _, ⟨by show _ ≤ ((b.length : Nat) : Int); omega, by show ((b.length : Nat) : Int) < _; omega⟩, ⟨by show _ ≤ 1000 + c; omega, by show 1000 + c < _; omega⟩, ?_⟩
  show i64In (mrk _ _)
  unfold mrk i64In
  have h1 : List.idxOf (1000 + c, (made0 c s h b).text) (sgn l (1000 + c, (made0 c s h b).text)) ≤ (sgn l (1000 + c, (made0 c s h b).text)).length := List.idxOf_le_length
  have h2 : (sgn l (1000 + c, (made0 c s h b).text)).length ≤ l.length + 1 := by unfold sgn; split <;> simp
  omega
theorem made_right (c s : Int) (hc : 0 ≤ c) (h b : List UInt8) (l : List Ent) (k : Int) (hk : c < k) (hs : 1 ≤ s ∧ s ≤ 1048576) (hb : b.length ≤ 256) :
    rightC k (sgn l (1000 + c, (made0 c s h b).text)) (made c s h b l) = true := by
  unfold rightC
  have h1 : validB k (made c s h b l) = true := by
    unfold validB
    simp only [decide_eq_true_eq]
    exact ⟨hc, hk, hs.1, hs.2, by show (0 : Int) ≤ ((b.length : Nat) : Int); omega, by show ((b.length : Nat) : Int) ≤ 256; omega⟩
  have h2 : signB (made c s h b l).b (made c s h b l).c = true := by
    unfold signB
    simp only [decide_eq_true_eq]
    exact ⟨by show 1000 ≤ 1000 + c; omega, by show 1000 + c - 1000 = c; omega⟩
  rw [h1, h2, made_text]
  exact rightB_sgn l (1000 + c) (made0 c s h b).text

set_option maxHeartbeats 1000000 in
theorem cwakes_any (w : World) (hK : KW w) : Calls Tryd.prog 28 #[] w fun e w' => e = .returned (.bool true) ∧ Fr [] w w' := by
  have HK := Lib.hid hK
  have kc := conv_const
  clear hK
  go_enter Tryd.func28, Tryd.ntmps28
  go_wp2_with fail
  refine (new_any _).mono ?_
  rintro e w1 ⟨rfl, hb1, hf1⟩
  have HB1 := Lib.hid hb1
  have HF1 := Lib.hid hf1
  have hl1 : w.heap.size + 1 < w1.heap.size := hb1.lt _ (by simp)
  clear hb1 hf1
  go_wp2_with fail
  have hfa : Fr [] w1 (w1.alloc (Obj.cells #[Value.int IntKind.u8 97] 5 (1, 2))) := (Fr.refl [] w1).alloc _
  refine (make_any 0 1 (by decide) ⟨by decide, by decide⟩ (List.replicate 32 0) (by simp) (some ⟨w1.heap.size, 0, none⟩) 1 1 [97] _ (By.mark w1 _ rfl _ _ _ [97] rfl) (fun k hk => by simp [bk] at hk; subst hk; simp) (by omega)
    (HK.out.keep (HF1.out.and hfa (by simp)) (by simp)) _ _ [] (HB1.out.keep hfa (by simp)) (by decide)).mono ?_
  have hok := made_ok 0 1 (by decide) ⟨by decide, by decide⟩ (List.replicate 32 0) [97] (by decide) [] (by decide)
  have hr := made_right 0 1 (by decide) (List.replicate 32 0) [97] [] 1 (by decide) (by decide) (by decide)
  generalize made 0 1 (List.replicate 32 0) [97] [] = x at *
  generalize sgn [] (1000 + 0, (made0 0 1 (List.replicate 32 0) [97]).text) = l2 at *
  have hlen := Cm.len hok.h
  have HOK := Lib.hid hok
  have HR := Lib.hid hr
  have HLEN := Lib.hid hlen
  clear hok hr hlen
  rintro e w2 ⟨rfl, hb2, hf2⟩
  have HB2 := Lib.hid hb2
  have HF2 := Lib.hid (HF1.out.trans (hfa.mono (T := [w.heap.size + 1, w.heap.size]) (by simp) |>.trans hf2 (fun x hx _ => hx)) (fun x hx hl => by simp at hx; omega))
  have HS2 : Hid (w.heap.size + 1 < w2.heap.size) := Lib.hid (by have h1 := hfa.size; have h2 := hf2.size; exact Nat.lt_of_lt_of_le hl1 (Nat.le_trans h1 h2))
  clear hb2 hf2 hfa
  unfold Cm.val
  go_wp2_with (first
    | (refine wpList_store_box rfl 50 _ _ rfl zeroCm 50 x.cells rfl rfl (by rw [HLEN.out]; kernel_rfl) (by rw [HLEN.out]; rfl) x.one ?_
       intro w3 hb3 hf3
       have HX3 := Lib.hid hb3
       have HB3 := Lib.hid (HB2.out.keep hf3 (by simp))
       have HF3 := Lib.hid (HF2.out.and hf3 (by simp))
       have HS3 : Hid (w2.heap.size < w3.heap.size) := Lib.hid hb3.lt
       clear hb3 hf3)
    | (refine wpList_load_row rfl 50 _ rfl w2.heap.size rfl 50 x.cells.toArray _ _ HX3.out Tryd.underlying50 rfl (by rw [List.size_toArray, HLEN.out]; kernel_rfl) ?_)
    | (go_at_call 32
       have h := cright_any 1 1 x HOK.out w3 [w.heap.size + 1, w.heap.size] (w.heap.size + 1) l2 HB3.out
       rw [HR.out] at h
       unfold Cm.val at h
       refine h.mono ?_
       clear h
       rintro e w4 ⟨rfl, hf4⟩
       have HF4 := Lib.hid (HF3.out.and hf4 (by simp))
       clear hf4))
  go_ret
  exact ⟨rfl, HF4.out⟩
end Go.Proofs.YtbajkdlemgnmkaaDoor
