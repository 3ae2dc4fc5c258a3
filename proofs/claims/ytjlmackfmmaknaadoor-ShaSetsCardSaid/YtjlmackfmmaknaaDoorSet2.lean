/- Package sha: the contracts of a set's Has and Add. -/
import Derived.Test.YtjlmackfmmaknaaDoorSet
import Derived.Test.YtjlmackfmmaknaaDoorReg2
import Derived.Test.YtjlmackfmmaknaaDoorCm2
namespace Go.Proofs.YtjlmackfmmaknaaDoor
set_option maxRecDepth 100000
open Go.RowKit

theorem wp_mapUpdate_own {P : Program} {w : World} {o : Oper} {a : Act} {K : Act → World → Prop} {Q : Exit → Act → World → Prop} (m x v : Operand) (t : TypeId) (hop : o.op = Op.mapUpdate t m x v)
    (k e : TypeId) (Kd : Maps.Keyed P k) (ht : P.underlying t = some (.map k e)) (R : Value → Option (DataW Unit × List MemPlace)) (b n : Nat) (D : DataW Unit)
    (hm : a.eval m = .map (some b)) (hown : w.ownsMap P k R b n D) (hn : n < maxLen) (key val : Value) (kl : Lit) (hx : a.eval x = key) (hv : a.eval v = val) (hkey : keyOf P k key = some kl)
    (d : DataW Unit) (ps : List MemPlace) (hval : R val = some (d, ps)) (h : ∀ w', w'.ownsMap P k R b (n + 1) (D.put kl d) → w.mapTurned w' b → K (a.put o.dst undef) w') : o.wp P a w K Q := by
  obtain ⟨w', hrun, r1, r2⟩ := hown.store Kd ht hn hkey hval
  unfold Oper.wp
  simp [execOp, hop, hm, hx, hv, hrun, Result.andThen]
  exact h w' r1 r2
theorem Sok.look {w : World} {S : List Nat} {g : Nat} {l : List (List UInt8)} (k : Sok w S g l) : ∃ b, S = [g, b] ∧ w.cell? ⟨g, 0, none⟩ = some (.map (some b)) ∧ ∀ w', Fr [] w w' → ∀ h : List UInt8, h.length = 32 →
    (Instr.lookup 114 (.map (some b)) (.agg (h.map by8).toArray) true).run Tryd.prog w' = .ok (.tuple #[.agg #[], .bool (decide (h ∈ l))]) w' := by
  obtain ⟨b, D, rfl, h1, h2, h3⟩ := k
  refine ⟨b, rfl, by simpa using h1.cell 0, fun w' hf h hh => ?_⟩
  obtain ⟨v, ps, hrun, hv⟩ := (own_fr h2 hf (by simp)).look_ok keyLawH Tryd.underlying114 (zeroU w') unitElem_mk (key_hash h hh)
  obtain ⟨rfl, _⟩ := unitElem_inv hv
  rw [h3.has h hh] at hrun
  exact hrun

set_option maxHeartbeats 1000000 in
theorem has_any (w : World) (S : List Nat) (g : Nat) (l : List (List UInt8)) (hs : Sok w S g l) (h : List UInt8) (hh : h.length = 32) :
    Calls Tryd.prog 18 #[.pointer (some ⟨g, 0, none⟩), .agg (h.map by8).toArray] w fun e w' => e = .returned (.bool (decide (h ∈ l))) ∧ Fr [] w w' := by
  obtain ⟨wa, hwa⟩ : ∃ wa, wa = w.alloc (Obj.cells (h.map by8).toArray 26) := ⟨_, rfl⟩
  have hf0 : Fr [] w wa := by rw [hwa]; exact (Fr.refl [] w).alloc _
  have hb0 : Blk wa w.heap.size 26 (h.map by8).toArray := by rw [hwa]; exact Blk.new _ _ _
  obtain ⟨b, _, hc, hlook⟩ := (hs.keep hf0 (by simp)).look
  have hlook := fun w' hf => hlook w' hf h hh
  have HR := Lib.hid hb0.range
  have HLN : Hid ((h.map by8).length = 32) := Lib.hid (by rw [List.length_map]; exact hh)
  have HC := Lib.hid hc
  have HF0 := Lib.hid hf0
  have HWA := Lib.hid hwa
  clear hwa hf0 hb0 hc hh hs
  generalize h.map by8 = C at *
  generalize decide (h ∈ l) = d at *
  have HLK := Lib.hid hlook
  clear hlook
  go_enter Tryd.func18, Tryd.ntmps18
  go_wp2
  rw [← HWA.out]
  refine wp_region_held_drew (S := Fr [] wa) (by kernel_rfl) (Fr.drew (Fr.refl _ wa)) (fun hHeld => ?_)
  refine run_at (i := 0) (v := ?_) rfl (by kernel_rfl) (by rfl) (fun _ _ _ h => h) hHeld (fun w1 hw1 => ?_) ?_
  rotate_left 1
  · skip
    go_simp
    (try (first | with_reducible rfl | (apply And.intro <;> rfl)))
  simp only [Act.put, List.setIfInBounds_toArray, List.set_cons_zero, List.set_cons_succ]
  refine run_at (i := 1) (v := ?_) rfl (by kernel_rfl) (by rfl) (fun _ _ _ h => h) hHeld (fun w1 hw1 => ?_) ?_
  rotate_left 1
  · skip
    go_simp
    (try (first | with_reducible rfl | (apply And.intro <;> rfl)))
  simp only [Act.put, List.setIfInBounds_toArray, List.set_cons_zero, List.set_cons_succ]
  refine run_at (i := 2) (v := ?_) rfl (by kernel_rfl) (by rfl) (fun _ _ _ h => h) hHeld (fun w1 hw1 => ?_) ?_
  rotate_left 1
  · skip
    go_simp
    (try (first | with_reducible rfl | (apply And.intro <;> rfl)))
  simp only [Act.put, List.setIfInBounds_toArray, List.set_cons_zero, List.set_cons_succ]
  refine run_at (i := 3) (v := ?_) rfl (by kernel_rfl) (by rfl) (fun _ _ _ h => h) hHeld (fun w1 hw1 => ?_) ?_
  rotate_left 1
  · skip
    have hcw0 := hw1.cell (HC.out) (by first | (simp; done) | exact HNS.out | exact HNW.out | (intro hm; have hlt := HSB.out _ hm; (try dsimp only at hlt); omega))
    go_simp
    (try (first | with_reducible rfl | (apply And.intro <;> rfl)))
  simp only [Act.put, List.setIfInBounds_toArray, List.set_cons_zero, List.set_cons_succ]
  refine row_at (i := 4) rfl (by kernel_rfl) (by rfl) _ _ rfl _ _ rfl _ (fun w1 hw1 => hw1.range (HR.out) (by first | (simp; done) | exact HNS.out | exact HNW.out | (intro hm; have hlt := HSB.out _ hm; (try dsimp only at hlt); omega))) (row_hash.of HLN.out) (fun _ _ _ h => h) hHeld ?_
  simp only [Act.put, List.setIfInBounds_toArray, List.set_cons_zero, List.set_cons_succ]
  refine run_at (i := 5) (v := ?_) rfl (by kernel_rfl) (by rfl) (fun _ _ _ h => h) hHeld (fun w1 hw1 => ?_) ?_
  rotate_left 1
  · have hlk := HLK.out w1 hw1
    go_simp
    (try (first | with_reducible rfl | (apply And.intro <;> rfl)))
  simp only [Act.put, List.setIfInBounds_toArray, List.set_cons_zero, List.set_cons_succ]
  refine run_at (i := 6) (v := ?_) rfl (by kernel_rfl) (by rfl) (fun _ _ _ h => h) hHeld (fun w1 hw1 => ?_) ?_
  rotate_left 1
  · skip
    go_simp
    (try (first | with_reducible rfl | (apply And.intro <;> rfl)))
  simp only [Act.put, List.setIfInBounds_toArray, List.set_cons_zero, List.set_cons_succ]
  refine run_at (i := 7) (v := ?_) rfl (by kernel_rfl) (by rfl) (fun _ _ _ h => h) hHeld (fun w1 hw1 => ?_) ?_
  rotate_left 1
  · skip
    go_simp
    (try (first | with_reducible rfl | (apply And.intro <;> rfl)))
  simp only [Act.put, List.setIfInBounds_toArray, List.set_cons_zero, List.set_cons_succ]
  refine run_at (i := 8) (v := ?_) rfl (by kernel_rfl) (by rfl) (fun _ _ _ h => h) hHeld (fun w1 hw1 => ?_) ?_
  rotate_left 1
  · skip
    go_simp
    (try (first | with_reducible rfl | (apply And.intro <;> rfl)))
  simp only [Act.put, List.setIfInBounds_toArray, List.set_cons_zero, List.set_cons_succ]
  refine step_at (i := 9) rfl (by kernel_rfl) (by rfl) (fun K hK => ?_)
  refine wp_run (v := ?_) (w' := ?_) ?_ ?_
  rotate_left 2
  · go_simp
    (try (first | with_reducible rfl | (apply And.intro <;> rfl)))
  refine hK.out _ _ (hHeld.alloc _) (fun hHeld => ?_)
  clear hK K
  simp only [Act.put, List.setIfInBounds_toArray, List.set_cons_zero, List.set_cons_succ]
  refine step_at (i := 10) rfl (by kernel_rfl) (by rfl) (fun K hK => ?_)
  refine wp_store_blk 117 _ _ rfl wa.drew.heap.size #[] rfl rfl 117 #[] (Blk.new _ _ _) (by kernel_rfl) rfl (by simp) ?_
  intro w6 hb6 hf6
  have hf7 : Fr [] wa w6 := hHeld.go hf6 (by show ∀ x ∈ [wa.heap.size], _; simp)
  refine hK.out _ _ hf7 (fun hHeld => ?_)
  clear hK K hb6 hf6 hf7
  simp only [Act.put, List.setIfInBounds_toArray, List.set_cons_zero, List.set_cons_succ]
  refine run_at (i := 11) (v := ?_) rfl (by kernel_rfl) (by rfl) (fun _ _ _ h => h) hHeld (fun w1 hw1 => ?_) ?_
  rotate_left 1
  · skip
    go_simp
    (try (first | with_reducible rfl | (apply And.intro <;> rfl)))
  simp only [Act.put, List.setIfInBounds_toArray, List.set_cons_zero, List.set_cons_succ]
  refine wpAnyH_done (by kernel_rfl) ?_ _
  go_wp2
  go_ret
  exact ⟨rfl, HF0.out.and hHeld (by simp)⟩

def adds (l : List (List UInt8)) (h : List UInt8) : List (List UInt8) := if h ∈ l then l else l ++ [h]
theorem has_any' (w : World) (S : List Nat) (g : Nat) (l : List (List UInt8)) (hs : Sok w S g l) (h : List UInt8) (hh : h.length = 32) (C : List Value) (hC : h.map by8 = C) :
    Calls Tryd.prog 18 #[.pointer (some ⟨g, 0, none⟩), .agg C.toArray] w fun e w' => e = .returned (.bool (decide (h ∈ l))) ∧ Fr [] w w' := by
  subst hC
  exact has_any w S g l hs h hh
set_option maxHeartbeats 1000000 in
theorem add_any (w : World) (S : List Nat) (g : Nat) (l : List (List UInt8)) (hs : Sok w S g l) (h : List UInt8) (hh : h.length = 32) (hl : l.length < 1073741824) :
    Calls Tryd.prog 19 #[.pointer (some ⟨g, 0, none⟩), .agg (h.map by8).toArray] w fun e w' => e = .returned (.bool (!decide (h ∈ l))) ∧ Sok w' S g (adds l h) ∧ Fr S w w' := by
  obtain ⟨wa, hwa⟩ : ∃ wa, wa = w.alloc (Obj.cells (h.map by8).toArray 26) := ⟨_, rfl⟩
  have hf0 : Fr [] w wa := by rw [hwa]; exact (Fr.refl [] w).alloc _
  have hb0 : Blk wa w.heap.size 26 (h.map by8).toArray := by rw [hwa]; exact Blk.new _ _ _
  have HS0 := Lib.hid (hs.keep hf0 (by simp))
  have HS1 := Lib.hid hs.lt
  have HR := Lib.hid hb0.range
  have HLN : Hid ((h.map by8).length = 32) := Lib.hid (by rw [List.length_map]; exact hh)
  have HH := Lib.hid hh
  have HL := Lib.hid hl
  have HF0 := Lib.hid hf0
  have HWA := Lib.hid hwa
  have HKEY := Lib.hid (key_hash h hh)
  have HCR := Lib.hid (rfl : h.map by8 = h.map by8)
  clear hwa hf0 hb0 hh hs hl
  unfold hval at HKEY
  generalize hC : h.map by8 = C at HR HLN HWA HKEY ⊢
  have HRC := Lib.hid hC
  clear hC HCR
  by_cases hm : h ∈ l
  · have hd : decide (h ∈ l) = true := decide_eq_true hm
    have ha : adds l h = l := if_pos hm
    have HD := Lib.hid hd
    have HAD := Lib.hid ha
    rw [hd]
    clear hd ha hm
    go_enter Tryd.func19, Tryd.ntmps19
    go_upto_region 1 with (fail)
    rw [← HWA.out]
    go_wp2_with (first
      | (refine wpList_row rfl 26 _ rfl _ _ rfl _ HR.out (row_hash.of HLN.out) ?_)
      | (go_at_call 18
         have hc := has_any' wa S g l HS0.out h HH.out C HRC.out
         rw [HD.out] at hc
         refine hc.mono ?_
         clear hc
         rintro e w1 ⟨rfl, hf1⟩
         have HF1 := Lib.hid hf1
         clear hf1))
    go_ret
    refine ⟨rfl, ?_, (HF0.out.and HF1.out (by simp)).mono (by simp)⟩
    rw [HAD.out]
    exact HS0.out.keep HF1.out (by simp)
  · have hd : decide (h ∈ l) = false := decide_eq_false hm
    have ha : adds l h = l ++ [h] := if_neg hm
    have HD := Lib.hid hd
    have HAD := Lib.hid ha
    have HM := Lib.hid hm
    rw [hd]
    clear hd ha hm
    go_enter Tryd.func19, Tryd.ntmps19
    go_upto_region 1 with (fail)
    rw [← HWA.out]
    go_upto_region 3 with (first
      | (refine wpList_row rfl 26 _ rfl _ _ rfl _ HR.out (row_hash.of HLN.out) ?_)
      | (go_at_call 18
         have hc := has_any' wa S g l HS0.out h HH.out C HRC.out
         rw [HD.out] at hc
         refine hc.mono ?_
         clear hc
         rintro e w1 ⟨rfl, hf1⟩
         have HF1 := Lib.hid hf1
         clear hf1))
    obtain ⟨b, D, hS, h1, h2, h3⟩ := HS0.out.keep HF1.out (by simp)
    have hc := h1.cell 0
    simp only [List.getElem?_toArray, List.getElem?_cons_zero] at hc
    have hgb : ¬ g = b := by
      rintro rfl
      obtain ⟨es, clock, hb, _⟩ := h2
      have h := h1
      unfold Blk at h
      rw [hb] at h
      cases h
    have hlb := HS0.out.lt b (by rw [hS]; simp)
    have HLB := Lib.hid (show ∀ k ∈ [b], k < wa.heap.size from fun k hk => by rw [List.mem_singleton.1 hk]; exact hlb)
    have HNS := Lib.hid (show ¬ g ∈ [b] by simpa using hgb)
    have HNW : Hid (¬ w.heap.size ∈ [b]) := Lib.hid (by simp only [List.mem_singleton]; have := HS1.out b (by rw [hS]; simp); omega)
    have HC := Lib.hid hc
    have HR1 := Lib.hid (HF1.out.range HR.out (by simp))
    have HS := Lib.hid hS
    have HB := Lib.hid h1
    have HO := Lib.hid h2
    have HH3 := Lib.hid h3
    clear hS h1 h2 h3 hc hgb hlb
    refine wp_region_held_drew (S := Fr [b] w1) (by kernel_rfl) (Fr.drew (Fr.refl _ w1)) (fun hHeld => ?_)
    refine run_at (i := 0) (v := ?_) rfl (by kernel_rfl) (by rfl) (fun _ _ _ h => h) hHeld (fun w1 hw1 => ?_) ?_
    rotate_left 1
    · skip
      go_simp
      (try (first | with_reducible rfl | (apply And.intro <;> rfl)))
    simp only [Act.put, List.setIfInBounds_toArray, List.set_cons_zero, List.set_cons_succ]
    refine run_at (i := 1) (v := ?_) rfl (by kernel_rfl) (by rfl) (fun _ _ _ h => h) hHeld (fun w1 hw1 => ?_) ?_
    rotate_left 1
    · skip
      go_simp
      (try (first | with_reducible rfl | (apply And.intro <;> rfl)))
    simp only [Act.put, List.setIfInBounds_toArray, List.set_cons_zero, List.set_cons_succ]
    refine run_at (i := 2) (v := ?_) rfl (by kernel_rfl) (by rfl) (fun _ _ _ h => h) hHeld (fun w1 hw1 => ?_) ?_
    rotate_left 1
    · skip
      go_simp
      (try (first | with_reducible rfl | (apply And.intro <;> rfl)))
    simp only [Act.put, List.setIfInBounds_toArray, List.set_cons_zero, List.set_cons_succ]
    refine run_at (i := 3) (v := ?_) rfl (by kernel_rfl) (by rfl) (fun _ _ _ h => h) hHeld (fun w1 hw1 => ?_) ?_
    rotate_left 1
    · skip
      have hcw0 := hw1.cell (HC.out) (by first | (simp; done) | exact HNS.out | exact HNW.out | (intro hm; have hlt := HSB.out _ hm; (try dsimp only at hlt); omega))
      go_simp
      (try (first | with_reducible rfl | (apply And.intro <;> rfl)))
    simp only [Act.put, List.setIfInBounds_toArray, List.set_cons_zero, List.set_cons_succ]
    refine row_at (i := 4) rfl (by kernel_rfl) (by rfl) _ _ rfl _ _ rfl _ (fun w1 hw1 => hw1.range (HR1.out) (by first | (simp; done) | exact HNS.out | exact HNW.out | (intro hm; have hlt := HSB.out _ hm; (try dsimp only at hlt); omega))) (row_hash.of HLN.out) (fun _ _ _ h => h) hHeld ?_
    simp only [Act.put, List.setIfInBounds_toArray, List.set_cons_zero, List.set_cons_succ]
    refine run_at (i := 5) (v := ?_) rfl (by kernel_rfl) (by rfl) (fun _ _ _ h => h) hHeld (fun w1 hw1 => ?_) ?_
    rotate_left 1
    · skip
      go_simp
      (try (first | with_reducible rfl | (apply And.intro <;> rfl)))
    simp only [Act.put, List.setIfInBounds_toArray, List.set_cons_zero, List.set_cons_succ]
    refine step_at (i := 6) rfl (by kernel_rfl) (by rfl) (fun K hK => ?_)
    refine wp_mapUpdate_own _ _ _ 114 rfl 26 117 keyLawH Tryd.underlying114 unitElem b l.length D rfl HO.out.drew (by have := HL.out; simp only [maxLen]; omega) (.agg C.toArray) (.agg #[]) (hlit h) rfl rfl HKEY.out (.agg []) [] unitElem_mk ?_
    intro w2 ho2 ht2
    have hf2 : Fr [b] w1 w2 := hHeld.turned ht2 (by simp)
    refine hK.out _ _ hf2 (fun hHeld => ?_)
    clear hK K hf2
    simp only [Act.put, List.setIfInBounds_toArray, List.set_cons_zero, List.set_cons_succ]
    refine wpAnyH_done (by kernel_rfl) ?_ _
    have HO2 := Lib.hid ho2
    clear ho2 ht2
    go_wp2
    go_ret
    have e := HAD.out
    refine ⟨rfl, ?_, ?_⟩
    · rw [e]
      refine ⟨b, _, HS.out, HB.out.keep hHeld HNS.out, ?_, HH3.out.snoc HH.out HM.out⟩
      simpa using HO2.out
    · exact ((HF0.out.and HF1.out (by simp)).mono (T := S) (by simp)).trans hHeld (fun x hx _ => by rw [HS.out]; simp at hx; simp [hx])
end Go.Proofs.YtjlmackfmmaknaaDoor
