/- The document's own log (gavelref07.Wal): Open. -/
import Derived.Test.YtdakilioikhhbaaRfd2
namespace Go.Proofs.Ytdakilioikhhbaa
set_option maxRecDepth 100000
open Go.RowKit

theorem cs_settleD (L : List (List UInt8)) (T : List UInt8) (s : Nat) (hs : s ≤ (rowsB L ++ T).length) : (cs (rowsB L ++ T) s).settleB (rowsB L).length = true ∧ (cs (rowsB L ++ T) s).settle (rowsB L).length = cl L := by
  have hcut : ∃ s1, s1 ≤ (rowsB L).length ∧ (cs (rowsB L ++ T) s).cutIf (rowsB L).length = cs (rowsB L) s1 := by
    by_cases hT : T = []
    · subst hT
      refine ⟨s, by simpa using hs, ?_⟩
      unfold Dsk.cutIf
      rw [if_neg (by simp [cs])]
      simp
    · have hp : 0 < T.length := List.length_pos_iff.2 hT
      refine ⟨min s (rowsB L).length, Nat.min_le_right _ _, ?_⟩
      unfold Dsk.cutIf
      rw [if_pos (by simp [cs]; exact hp)]
      simp [Dsk.cutD, Dsk.passB, Dsk.passD, cs, Dsk.leave]
  obtain ⟨s1, h1, h2⟩ := hcut
  have hp2 : (cs (rowsB L ++ T) s).passB = true := rfl
  unfold Dsk.settleB Dsk.settle
  by_cases hlt : s1 < (rowsB L).length
  · have hlt' : (cs (rowsB L) s1).syn < (cs (rowsB L) s1).row.length := hlt
    rw [h2, hp2, if_neg (by simp), if_pos hlt', if_neg (by simp), if_pos hlt']
    exact ⟨rfl, rfl⟩
  · have hlt' : ¬ (cs (rowsB L) s1).syn < (cs (rowsB L) s1).row.length := hlt
    rw [h2, hp2, if_neg (by simp), if_neg hlt', if_neg (by simp), if_neg hlt']
    refine ⟨rfl, ?_⟩
    have : s1 = (rowsB L).length := by omega
    rw [this]
    rfl
/-- what Open's loop keeps -/
structure RO (w wr : World) (v gq g : Nat) (F : List Nat) (A8 : Option Addr) (k c8 : Nat) (rs : List RowV) (R : List UInt8) (bad : Bool) : Prop where
  blk : Blk wr v 52 #[.pointer (some ⟨g, 0, none⟩), .slice A8 k c8]
  own : wr.ownsRow 0 22 1 (.slice A8 k c8) k (rs.map RowV.val)
  rq : Rq wr gq F R bad
  rows : ∀ r ∈ rs, By wr r.A r.n r.b ∧ ∀ x ∈ bk r.A, ¬ x ∈ gq :: v :: bk A8 ∧ w.heap.size ≤ x ∧ x < wr.heap.size
  new : ∀ x ∈ bk A8, w.heap.size ≤ x ∧ ¬ x = gq ∧ ¬ x = v ∧ ¬ x ∈ F
  ids : w.heap.size ≤ v ∧ w.heap.size ≤ gq ∧ ¬ v = gq ∧ ¬ v ∈ F ∧ (∀ x ∈ F, x < wr.heap.size) ∧ gq < wr.heap.size
  fr : Fr [] w wr
set_option maxHeartbeats 4000000 in
theorem ropen_any (w : World) (U : List Nat) (g : Nat) (s : Nat) (L : List (List UInt8)) (T : List UInt8) (hsp : Split (rowsB L ++ T) L T) (h : RD w U g (cs (rowsB L ++ T) s)) (hU : ∀ x ∈ U, x < w.heap.size) (hs : s ≤ (rowsB L ++ T).length) (hr : (rowsB L ++ T).length ≤ 100000) :
    Calls Try.prog 19 #[.pointer (some ⟨g, 0, none⟩)] w fun e w' => ∃ v, e = .returned (.tuple #[.pointer (some ⟨v, 0, none⟩), .int .i64 0]) ∧ w.heap.size ≤ v ∧ RL w' U g v (cl L) L ∧ Fr [g] w w' := by
  have H := Lib.hid h
  have HU := Lib.hid hU
  have HSP := Lib.hid hsp
  have HS := Lib.hid hs
  have HR := Lib.hid hr
  have HLN : Hid ((rowsB L ++ T).length = (rowsB L).length + T.length) := Lib.hid List.length_append
  have HCN : Hid (L.length ≤ 100000) := Lib.hid (by have := rowsB_count L; have := HLN.out; omega)
  obtain ⟨A, c, f, hd, hx⟩ := h
  obtain ⟨h0, -, h2, -, -⟩ := hd.cells
  simp only [cs] at h0 h2
  have HD := Lib.hid hd
  clear hd hx hsp hU hs hr
  obtain ⟨N, hN⟩ : ∃ N, (rowsB L ++ T).length = N := ⟨_, rfl⟩
  have HN := Lib.hid hN
  rw [hN] at h0
  clear hN
  have h0a : (w.alloc (Obj.cells #[.pointer (some ⟨g, 0, none⟩), .slice none 0 0] 52)).cell? ⟨g, 0, none⟩ = some (.slice A N c) := ((Fr.refl [] w).alloc _).cell h0 (by simp)
  go_enter Try.func19, Try.ntmps19
  go_wp2_with (at_builtin; refine Stop.mk ?_)
  refine Stop.go ?_
  have HB1 : Hid (Blk (w.alloc (Obj.cells #[.pointer (some ⟨g, 0, none⟩), .slice none 0 0] 52)) w.heap.size 52 #[.pointer (some ⟨g, 0, none⟩), .slice none 0 0]) := Lib.hid (Blk.new _ _ _)
  have HF1 : Hid (Fr [] w (w.alloc (Obj.cells #[.pointer (some ⟨g, 0, none⟩), .slice none 0 0] 52))) := Lib.hid ((Fr.refl [] w).alloc _)
  have HS1 : Hid (w.heap.size < (w.alloc (Obj.cells #[.pointer (some ⟨g, 0, none⟩), .slice none 0 0] 52)).heap.size) := Lib.hid (by simp)
  clear h0a h0 h2
  generalize w.alloc (Obj.cells #[.pointer (some ⟨g, 0, none⟩), .slice none 0 0] 52) = w1 at *
  generalize hv : w.heap.size = v at *
  have HV := Lib.hid hv
  clear hv
  refine wpList_append_copyv _ rfl (.const (.slice none 0 0)) (.tmp 20) _ rfl 5 (.int .u8 0) 1 Try.underlying22 info_u8 rfl rfl A N c ((rowsB L ++ T).map by8) rfl (by rw [List.length_map]; exact HN.out) (fun h => (HD.out.keep HF1.out (by simp)).by_.2 (by show 0 < (rowsB L ++ T).length; rw [HN.out]; exact h)) (by have := HR.out; have := HN.out; omega) (by omega) ?_
  intro A2 c2 w2 ho2 hf2 hA2
  have hrq : Rq (w2.alloc (Obj.cells #[.slice A2 N c2, .bool false] 75)) w2.heap.size (bk A2) (rowsB L ++ T) false :=
    ⟨A2, N, c2, fun k hk => ⟨hk, fun e => by have := own_lt ho2 k (by rw [bk_mem]; exact hk); omega⟩, Blk.new _ _ _, (By.of_own ho2).keep ((Fr.refl [] w2).alloc _) (by simp), own_cap ho2⟩
  have HRO : Hid (RO w (w2.alloc (Obj.cells #[.slice A2 N c2, .bool false] 75)) v w2.heap.size g (bk A2) none 0 0 [] (rowsB L ++ T) false) := Lib.hid (by
    have h1 := hf2.size
    have h2 := HS1.out
    have h3 := HV.out
    exact ⟨(HB1.out.keep hf2 (by simp)).keep ((Fr.refl [] w2).alloc _) (by simp), ⟨rfl, .inl ⟨rfl, rfl⟩⟩, hrq, by simp, by simp [bk], ⟨by omega, by omega, by omega, fun hm => by have := hA2 v hm; omega, fun x hx => by have h4 := own_lt ho2 x (by rw [bk_mem]; exact hx); simp; omega, by simp⟩, (HF1.out.and hf2 (by simp)).alloc _⟩)
  clear ho2 hf2 hA2 hrq HB1 HF1
  generalize bk A2 = F at *
  go_upto_block 0 with (fail)
  generalize w2.alloc (Obj.cells #[.slice A2 N c2, .bool false] 75) = w3 at *
  generalize w2.heap.size = gq at *
  go_cut [6] (fun s6 wx => s6 = .int .i64 (rowsB L).length ∧ ∃ (A8 : Option Addr) (c8 : Nat) (rs : List RowV) (R : List UInt8) (bad : Bool), Hid (RO w wx v gq g F A8 L.length c8 rs R bad) ∧ Hid (rs.map (·.b) = L))
  case first =>
    go_wp2_with fail
    go_loopw [6] (fun s6 wr => ∃ (k : Nat) (A8 : Option Addr) (c8 : Nat) (rs : List RowV), k ≤ L.length ∧ s6 = .int .i64 (rowsB (L.take k)).length ∧ Hid (RO w wr v gq g F A8 k c8 rs (rowsB (L.drop k) ++ T) false) ∧ Hid (rs.map (·.b) = L.take k)) (fun s6 _ => (rowsB L).length - (intOf s6).toNat)
    case atStart => exact ⟨0, none, 0, [], by omega, by simp [rowsB], by simpa using HRO, Lib.hid (by simp)⟩
    case round =>
      obtain ⟨k, A8, c8, rs, hk, rfl, HO, HM⟩ := hrel
      clear HRO
      have hsp2 : (rowsB (L.take k)).length + (rowsB (L.drop k) ++ T).length = (rowsB L ++ T).length := by
        have h1 := congrArg List.length (rowsB_split L k)
        rw [List.length_append] at h1
        rw [List.length_append, HLN.out]
        omega
      have HSP2 := Lib.hid hsp2
      clear hsp2
      obtain ⟨Ar, nr, cr, -, hbr, hyr, -⟩ := HO.out.rq
      have hcr := hbr.cell 0
      simp at hcr
      have hnr := hyr.1
      clear hbr hyr
      by_cases hlt : k < L.length
      · have hat : rowsB (L.drop k) ++ T = rowB L[k] ++ (rowsB (L.drop (k + 1)) ++ T) := by rw [rowsB_at hlt, List.append_assoc]
        have htk : (rowsB (L.take (k + 1))).length = (rowsB (L.take k)).length + (rowB L[k]).length := by
          rw [List.take_add_one, List.getElem?_eq_getElem hlt, Option.toList_some, rowsB_snoc, List.length_append]
        have htk2 : L.take (k + 1) = L.take k ++ [L[k]] := by rw [List.take_add_one, List.getElem?_eq_getElem hlt, Option.toList_some]
        have hsh : L[k].length ≤ 65536 := HSP.out.short _ (List.getElem_mem hlt)
        have hpos := rowB_pos L[k]
        rw [hat] at HO HSP2 hnr
        obtain ⟨g1, g2, g3⟩ := rw_row hsh (rowsB (L.drop (k + 1)) ++ T)
        have HG := Lib.hid (And.intro g1 (And.intro g2 (g3 false)))
        have HTK := Lib.hid htk
        have HTK2 := Lib.hid htk2
        have HPOS := Lib.hid hpos
        have hnr0 : (0 : Int) < nr := by rw [List.length_append] at hnr; omega
        have HLR : Hid ((rowB L[k] ++ (rowsB (L.drop (k + 1)) ++ T)).length ≤ 100000) := Lib.hid (by have := HSP2.out; have := HR.out; omega)
        have HSPL : Hid ((rowsB (L.take k)).length + (rowB L[k]).length ≤ (rowsB L).length) := Lib.hid (by
          have h1 := HSP2.out
          have h2 := HLN.out
          rw [List.length_append, List.length_append] at h1
          omega)
        clear hat htk htk2 hsh hpos g1 g2 g3 hnr
        generalize L[k] = b at *
        generalize hR2 : rowsB (L.drop (k + 1)) ++ T = R2 at *
        have HR2 := Lib.hid hR2
        clear hR2
        go_wp2_with fail
        refine (qrow_f 65536 (by omega) HO.out.rq (by have := HLR.out; omega)).mono ?_
        rw [HG.out.1, HG.out.2.1, HG.out.2.2]
        rintro e w4 ⟨A4, c4, rfl, hy4, hn4, hq4, hf4⟩
        obtain ⟨Aq, nq, cq, hAq, hbq, hyq, hcq⟩ := hq4
        have hq1 := hbq.cell 1
        simp at hq1
        have hids := HO.out.ids
        have hb4 := HO.out.blk.keep hf4 (by simp; exact hids.2.2.1)
        have hv1 := hb4.cell 1
        have hz1 := hb4.frozen 1
        simp at hv1
        have HB4 := Lib.hid hb4
        have HF4 := Lib.hid hf4
        have HY4 := Lib.hid (And.intro hy4 hn4)
        have HQ4 : Hid (Rq w4 gq F R2 false) := Lib.hid ⟨Aq, nq, cq, hAq, hbq, hyq, hcq⟩
        have HO4 := Lib.hid (own_keep HO.out.own hf4 (fun x hx hm => by rw [bk_mem] at hx; simp at hm; exact (HO.out.new x hx).2.1 hm))
        clear hy4 hn4 hf4 hbq hyq hcq hAq hids hb4
        go_wp2_with (at_builtin; refine Stop.mk ?_)
        refine Stop.go ?_
        refine wpList_append_vals _ rfl (.tmp 40) (.tmp 42) _ rfl 22 (.slice none 0 0) 24 Try.underlying33 info_row rfl (.slice A8 k c8) k _ rfl (HO4.out.alloc _) ⟨w4.heap.size, 0, none⟩ 1 (.slice A4 b.length c4) rfl ?_ rfl (by have := HCN.out; omega) (by omega) ?_
        · exact (Blk.new w4 22 #[Value.slice A4 b.length c4]).cell 0
        intro A5 c5 w5 ho5 hg5 hat5
        have hf45 : Fr (bk A8) w4 w5 := (((Fr.refl [] w4).alloc _).mono (by simp)).grown hg5 (fun x hx _ => by rw [bk_mem] at hx; exact hx)
        have h5n : ∀ x ∈ bk A5, x ∈ bk A8 ∨ w4.heap.size ≤ x := fun x hx => by
          rcases hat5 with e | e
          · rw [e, bk_own] at hx; exact .inl hx
          · rw [e] at hx; simp at hx; exact .inr (by omega)
        have hvA : ¬ v ∈ bk A8 := fun hm => (HO.out.new v hm).2.2.1 rfl
        have hb5 := HB4.out.keep hf45 hvA
        have hc51 := hb5.cell 1
        have hz51 := hb5.frozen 1
        simp at hc51
        have hne5 : (Value.slice A5 (k + 1) c5).ownBlock ≠ some v := by
          intro e
          rcases h5n v (by rw [← bk_mem (A := A5) (n := k + 1) (c := c5)]; exact e) with h | h
          · exact hvA h
          · have := HB4.out.lt; omega
        have hfs : Fr [v] w5 (w5.setCell ⟨v, 1, none⟩ (.slice A5 (k + 1) c5)) := (Fr.refl [v] w5).one (by simp) _ _
        have hro : RO w (w5.setCell ⟨v, 1, none⟩ (.slice A5 (k + 1) c5)) v gq g F A5 (k + 1) c5 (rs ++ [⟨A4, b.length, c4, b⟩]) R2 false := by
          have hids := HO.out.ids
          have hs34 := HF4.out.size
          have hs45 := hf45.size
          have hsfs := hfs.size
          have hnv : ∀ x ∈ bk A4, wr.heap.size ≤ x ∧ x < w4.heap.size := HY4.out.2
          have hvw := HO.out.blk.lt
          have hA8 : ∀ x ∈ bk A8, x < wr.heap.size := fun x hx => own_lt HO.out.own x (by rw [bk_mem]; exact hx)
          have h0 := HO.out.fr.size
          refine ⟨?_, ?_, ?_, fun r hr => ?_, fun x hx => ?_, ⟨hids.1, hids.2.1, hids.2.2.1, hids.2.2.2.1, fun x hx => by have := hids.2.2.2.2.1 x hx; omega, by omega⟩, ?_⟩
          · have := hb5.set 1 (.slice A5 (k + 1) c5)
            simpa using this
          · have := own_setCell ho5 ⟨v, 1, none⟩ hne5 (.slice A5 (k + 1) c5)
            simpa [RowV.val] using this
          · exact (HQ4.out.keep hf45 (fun hm => (HO.out.new gq hm).2.1 rfl) (fun x hx hm => (HO.out.new x hm).2.2.2 hx)).keep hfs (by simp; exact fun e => hids.2.2.1 e.symm) (fun x hx hm => by simp at hm; subst hm; exact hids.2.2.2.1 hx)
          · rcases List.mem_append.1 hr with hr | hr
            · obtain ⟨h1, h2⟩ := HO.out.rows r hr
              refine ⟨((h1.keep HF4.out (fun a ha hm => (h2 a.block (by simp [bk, ha])).1 (by simp at hm; simp [hm]))).keep hf45 (fun a ha hm => (h2 a.block (by simp [bk, ha])).1 (by simp [hm]))).keep hfs (fun a ha hm => (h2 a.block (by simp [bk, ha])).1 (by simp at hm; simp [hm])), fun x hx => ?_⟩
              obtain ⟨q1, q2, q3⟩ := h2 x hx
              refine ⟨fun hm => q1 ?_, q2, by omega⟩
              simp at hm ⊢
              rcases hm with e | e | e
              · exact .inl e
              · exact .inr (.inl e)
              · rcases h5n x e with h | h
                · exact .inr (.inr h)
                · omega
            · simp at hr
              subst hr
              refine ⟨(HY4.out.1.keep hf45 (fun a ha hm => by have := hnv a.block (by simp [bk, ha]); have := hA8 _ hm; omega)).keep hfs (fun a ha hm => by have := hnv a.block (by simp [bk, ha]); simp at hm; omega), fun x hx => ?_⟩
              have h3 := hnv x hx
              refine ⟨fun hm => ?_, by omega, by omega⟩
              simp at hm
              rcases hm with e | e | e
              · omega
              · omega
              · rcases h5n x e with h | h
                · have := hA8 x h; omega
                · omega
          · rcases h5n x hx with h | h
            · exact HO.out.new x h
            · exact ⟨by omega, by omega, by omega, fun hm => by have := hids.2.2.2.2.1 x hm; omega⟩
          · exact ((HO.out.fr.and HF4.out (by simp; omega)).and hf45 (fun x hx => (HO.out.new x hx).1)).and hfs (by simp; omega)
        have HRO5 := Lib.hid hro
        clear hro hfs hne5 hb5 hvA h5n hf45 ho5 hg5 hat5 hv1 hz1 hq1
        go_upto_region 10 with (fail)
        generalize w5.setCell ⟨v, 1, none⟩ (.slice A5 (k + 1) c5) = w6 at *
        refine wp_region_held_drew (S := Fr [] w6) (by kernel_rfl) (Fr.drew (Fr.refl _ w6)) (fun hHeld => ?_)
        have hD6 := HD.out.keep HRO5.out.fr (by simp)
        have h60 := hD6.cells.1
        simp only [cs] at h60
        rw [HN.out] at h60
        obtain ⟨Ar6, nr6, cr6, -, hbr6, hyr6, -⟩ := HRO5.out.rq
        have hr60 := hbr6.cell 0
        simp at hr60
        have hn6 : nr6 = R2.length := hyr6.1.symm
        subst hn6
        have hwr : IntKind.i64.wrap ((N : Int) - (R2.length : Int)) = ((rowsB (L.take (k + 1))).length : Int) := by
          have h1 := HSP2.out
          have h2 := HTK.out
          have h3 := HR.out
          have h4 := HN.out
          rw [List.length_append, h4] at h1
          rw [IntKind.wrap_i64]
          omega
        have HWR := Lib.hid hwr
        clear hbr6 hyr6 hD6 hwr
        refine run_at (i := 0) (v := ?_) rfl (by kernel_rfl) (by rfl) (fun _ _ _ h => h) hHeld (fun w1 hw1 => ?_) ?_
        rotate_left 1
        · skip
          go_simp
          (try (first | with_reducible rfl | (apply And.intro <;> rfl)))
        simp only [Act.put, List.setIfInBounds_toArray, List.set_cons_zero, List.set_cons_succ]
        refine run_at (i := 1) (v := ?_) rfl (by kernel_rfl) (by rfl) (fun _ _ _ h => h) hHeld (fun w1 hw1 => ?_) ?_
        rotate_left 1
        · skip
          go_simp
          (try (first | with_reducible rfl | (apply And.intro <;> rfl)))
        simp only [Act.put, List.setIfInBounds_toArray, List.set_cons_zero, List.set_cons_succ]
        refine run_at (i := 2) (v := ?_) rfl (by kernel_rfl) (by rfl) (fun _ _ _ h => h) hHeld (fun w1 hw1 => ?_) ?_
        rotate_left 1
        · skip
          go_simp
          (try (first | with_reducible rfl | (apply And.intro <;> rfl)))
        simp only [Act.put, List.setIfInBounds_toArray, List.set_cons_zero, List.set_cons_succ]
        refine run_at (i := 3) (v := ?_) rfl (by kernel_rfl) (by rfl) (fun _ _ _ h => h) hHeld (fun w1 hw1 => ?_) ?_
        rotate_left 1
        · skip
          have hcw0 := hw1.cell (h60) (by first | (simp; done) | exact HNS.out | exact HNW.out | (intro hm; have hlt := HSB.out _ hm; (try dsimp only at hlt); omega))
          go_simp
          (try (first | with_reducible rfl | (apply And.intro <;> rfl)))
        simp only [Act.put, List.setIfInBounds_toArray, List.set_cons_zero, List.set_cons_succ]
        refine run_at (i := 4) (v := ?_) rfl (by kernel_rfl) (by rfl) (fun _ _ _ h => h) hHeld (fun w1 hw1 => ?_) ?_
        rotate_left 1
        · skip
          go_simp
          (try (first | with_reducible rfl | (apply And.intro <;> rfl)))
        simp only [Act.put, List.setIfInBounds_toArray, List.set_cons_zero, List.set_cons_succ]
        refine run_at (i := 5) (v := ?_) rfl (by kernel_rfl) (by rfl) (fun _ _ _ h => h) hHeld (fun w1 hw1 => ?_) ?_
        rotate_left 1
        · skip
          go_simp
          (try (first | with_reducible rfl | (apply And.intro <;> rfl)))
        simp only [Act.put, List.setIfInBounds_toArray, List.set_cons_zero, List.set_cons_succ]
        refine run_at (i := 6) (v := ?_) rfl (by kernel_rfl) (by rfl) (fun _ _ _ h => h) hHeld (fun w1 hw1 => ?_) ?_
        rotate_left 1
        · skip
          go_simp
          (try (first | with_reducible rfl | (apply And.intro <;> rfl)))
        simp only [Act.put, List.setIfInBounds_toArray, List.set_cons_zero, List.set_cons_succ]
        refine run_at (i := 7) (v := ?_) rfl (by kernel_rfl) (by rfl) (fun _ _ _ h => h) hHeld (fun w1 hw1 => ?_) ?_
        rotate_left 1
        · skip
          go_simp
          (try (first | with_reducible rfl | (apply And.intro <;> rfl)))
        simp only [Act.put, List.setIfInBounds_toArray, List.set_cons_zero, List.set_cons_succ]
        refine run_at (i := 8) (v := ?_) rfl (by kernel_rfl) (by rfl) (fun _ _ _ h => h) hHeld (fun w1 hw1 => ?_) ?_
        rotate_left 1
        · skip
          have hcw0 := hw1.cell (hr60) (by first | (simp; done) | exact HNS.out | exact HNW.out | (intro hm; have hlt := HSB.out _ hm; (try dsimp only at hlt); omega))
          go_simp
          (try (first | with_reducible rfl | (apply And.intro <;> rfl)))
        simp only [Act.put, List.setIfInBounds_toArray, List.set_cons_zero, List.set_cons_succ]
        refine run_at (i := 9) (v := ?_) rfl (by kernel_rfl) (by rfl) (fun _ _ _ h => h) hHeld (fun w1 hw1 => ?_) ?_
        rotate_left 1
        · skip
          go_simp
          (try (first | with_reducible rfl | (apply And.intro <;> rfl)))
        simp only [Act.put, List.setIfInBounds_toArray, List.set_cons_zero, List.set_cons_succ]
        refine run_at (i := 10) (v := ?_) rfl (by kernel_rfl) (by rfl) (fun _ _ _ h => h) hHeld (fun w1 hw1 => ?_) ?_
        rotate_left 1
        · skip
          go_simp
          (try (first | with_reducible rfl | (apply And.intro <;> rfl)))
        simp only [Act.put, List.setIfInBounds_toArray, List.set_cons_zero, List.set_cons_succ]
        refine run_at (i := 11) (v := ?_) rfl (by kernel_rfl) (by rfl) (fun _ _ _ h => h) hHeld (fun w1 hw1 => ?_) ?_
        rotate_left 1
        · skip
          go_simp
          (try (first | with_reducible rfl | (apply And.intro <;> rfl)))
        simp only [Act.put, List.setIfInBounds_toArray, List.set_cons_zero, List.set_cons_succ]
        refine wpAnyH_done (by kernel_rfl) ?_ _
        rw [HWR.out]
        have HW7 : Hid (RO w w6.drew v gq g F A5 (k + 1) c5 (rs ++ [⟨A4, b.length, c4, b⟩]) R2 false) := Lib.hid ⟨HRO5.out.blk, HRO5.out.own, HRO5.out.rq, HRO5.out.rows, HRO5.out.new, HRO5.out.ids, HRO5.out.fr.drew⟩
        clear hHeld h60 hr60 HRO5
        generalize w6.drew = w7 at *
        go_wp2
        go_roundw
        case rel => exact ⟨k + 1, A5, c5, _, by omega, rfl, by rw [HR2.out]; exact HW7, Lib.hid (by rw [List.map_append, HM.out, HTK2.out]; rfl)⟩
        case measure =>
          have h1 := HTK.out
          have h2 := HPOS.out
          have h3 := HSPL.out
          simp [intOf]
          omega
      · have hkl : k = L.length := by omega
        subst hkl
        rw [List.drop_length, rowsB_nil, List.nil_append] at HO HSP2 hnr
        rw [List.take_length] at *
        have HM2 : Hid (rs.map (·.b) = L) := HM
        by_cases hT : T = []
        · have hn0 : ¬ (nr : Int) > 0 := by rw [← hnr, hT]; simp
          have hn1 : ¬ (0 : Int) < nr := by rw [← hnr, hT]; simp
          go_wp2_with fail
          all_goals
            go_meet
            exact ⟨rfl, A8, c8, rs, _, _, HO, HM2⟩
        · have hst : rwB T 65536 false = true := HSP.out.stop.resolve_left hT
          obtain ⟨g1, g2, g3⟩ := rw_stop hst
          have HG := Lib.hid (And.intro g1 (And.intro g2 (g3 false)))
          have hnr0 : (0 : Int) < nr := by rw [← hnr]; have := List.length_pos_iff.2 hT; omega
          have HTL : Hid (T.length ≤ 100000) := Lib.hid (by have := HSP2.out; have := HR.out; omega)
          clear hst hT g1 g2 g3 hnr
          go_wp2_with fail
          refine (qrow_f 65536 (by omega) HO.out.rq (by have := HTL.out; omega)).mono ?_
          rw [HG.out.1, HG.out.2.1, HG.out.2.2]
          rintro e w4 ⟨A4, c4, rfl, hy4, hn4, hq4, hf4⟩
          obtain ⟨Aq, nq, cq, hAq, hbq, hyq, hcq⟩ := hq4
          have hq1 := hbq.cell 1
          simp at hq1
          have HRX : Hid (RO w w4 v gq g F A8 L.length c8 rs [] true) := Lib.hid (by
            have hids := HO.out.ids
            have h1 := hf4.size
            exact ⟨HO.out.blk.keep hf4 (by simp; exact hids.2.2.1), own_keep HO.out.own hf4 (fun x hx hm => by rw [bk_mem] at hx; simp at hm; exact (HO.out.new x hx).2.1 hm), ⟨Aq, nq, cq, hAq, hbq, hyq, hcq⟩,
              fun r hr => ⟨(HO.out.rows r hr).1.keep hf4 (fun a ha hm => ((HO.out.rows r hr).2 a.block (by simp [bk, ha])).1 (by simp at hm; simp [hm])), fun x hx => by have h2 := (HO.out.rows r hr).2 x hx; exact ⟨h2.1, h2.2.1, by omega⟩⟩, HO.out.new,
              ⟨hids.1, hids.2.1, hids.2.2.1, hids.2.2.2.1, fun x hx => by have := hids.2.2.2.2.1 x hx; omega, by omega⟩, HO.out.fr.and hf4 (by simp; omega)⟩)
          clear hy4 hn4 hf4 hbq hyq hcq hAq
          go_wp2_with fail
          all_goals
            go_meet
            exact ⟨rfl, A8, c8, rs, _, _, HRX, HM2⟩
  case rest =>
    obtain ⟨rfl, A8, c8, rs, R, bad, HO, HM⟩ := hcut
    rename World => wa
    clear HRO
    have HDa := Lib.hid (HD.out.keep HO.out.fr (by simp))
    have HRDa : Hid (RD wa (v :: U) g (cs (rowsB L ++ T) s)) := Lib.hid (H.out.keep (S := []) HO.out.fr (by simp) (fun x hx hl => by
      rcases List.mem_cons.1 hx with rfl | hx
      · have := HV.out; omega
      · exact hx))
    have HBV := Lib.hid HO.out.blk
    have HVG : Hid (¬ v = g) := Lib.hid (fun e => by have := H.out.lt; have := HV.out; omega)
    have HVU : Hid (¬ v ∈ U) := Lib.hid (fun hm => by have := HU.out v hm; have := HV.out; omega)
    have HGL : Hid (GL wa (v :: g :: U) A8 L.length rs) := Lib.hid (by
      have hgl := H.out.lt
      have hvw := HV.out
      have hU : ∀ x ∈ g :: U, x < w.heap.size := fun x hx => by
        rcases List.mem_cons.1 hx with rfl | hx
        · exact hgl
        · have := HU.out x hx; omega
      refine GL.own (c := c8) HO.out.own (fun r hr => (HO.out.rows r hr).1) (fun x hx hm => ?_) (fun r hr x hx => ⟨fun hm => ?_, ((HO.out.rows r hr).2 x hx).2.2⟩)
      · have h1 := HO.out.new x hx
        rcases List.mem_cons.1 hm with e | hm
        · exact h1.2.2.1 e
        · have := hU x hm; omega
      · have h1 := (HO.out.rows r hr).2 x hx
        rcases List.mem_cons.1 hm with e | hm
        · exact h1.1 (by simp [e])
        · have := hU x hm; omega)
    have hd0 := HDa.out.cells.1
    simp only [cs] at hd0
    rw [HN.out] at hd0
    by_cases hT : T = []
    · subst hT
      rw [List.append_nil] at *
      have HRX : Hid (RD wa (v :: U) g (cs (rowsB L) s)) := HRDa
      have hn0 : ¬ ((rowsB L).length : Int) < (N : Int) := by rw [← HN.out]; omega
      have HS1L : Hid (s ≤ (rowsB L).length) := HS
      have HFX : Hid (Fr [g] wa wa) := Lib.hid (Fr.refl _ _)
      generalize s = s1 at *
      obtain ⟨Ax, cx, fx, hx, -⟩ := HRX.out
      obtain ⟨h0, h1, -, -, -⟩ := hx.cells
      simp only [cs] at h0 h1
      clear hx
      go_upto_region 15 with (fail)
      refine wp_region_held_drew (S := Fr [] wa) (by kernel_rfl) (Fr.drew (Fr.refl _ wa)) (fun hHeld => ?_)
      refine run_at (i := 0) (v := ?_) rfl (by kernel_rfl) (by rfl) (fun _ _ _ h => h) hHeld (fun w1 hw1 => ?_) ?_
      rotate_left 1
      · skip
        go_simp
        (try (first | with_reducible rfl | (apply And.intro <;> rfl)))
      simp only [Act.put, List.setIfInBounds_toArray, List.set_cons_zero, List.set_cons_succ]
      refine run_at (i := 1) (v := ?_) rfl (by kernel_rfl) (by rfl) (fun _ _ _ h => h) hHeld (fun w1 hw1 => ?_) ?_
      rotate_left 1
      · skip
        go_simp
        (try (first | with_reducible rfl | (apply And.intro <;> rfl)))
      simp only [Act.put, List.setIfInBounds_toArray, List.set_cons_zero, List.set_cons_succ]
      refine run_at (i := 2) (v := ?_) rfl (by kernel_rfl) (by rfl) (fun _ _ _ h => h) hHeld (fun w1 hw1 => ?_) ?_
      rotate_left 1
      · skip
        go_simp
        (try (first | with_reducible rfl | (apply And.intro <;> rfl)))
      simp only [Act.put, List.setIfInBounds_toArray, List.set_cons_zero, List.set_cons_succ]
      refine run_at (i := 3) (v := ?_) rfl (by kernel_rfl) (by rfl) (fun _ _ _ h => h) hHeld (fun w1 hw1 => ?_) ?_
      rotate_left 1
      · skip
        have hcw0 := hw1.cell (h1) (by first | (simp; done) | exact HNS.out | exact HNW.out | (intro hm; have hlt := HSB.out _ hm; (try dsimp only at hlt); omega))
        go_simp
        (try (first | with_reducible rfl | (apply And.intro <;> rfl)))
      simp only [Act.put, List.setIfInBounds_toArray, List.set_cons_zero, List.set_cons_succ]
      refine run_at (i := 4) (v := ?_) rfl (by kernel_rfl) (by rfl) (fun _ _ _ h => h) hHeld (fun w1 hw1 => ?_) ?_
      rotate_left 1
      · skip
        go_simp
        (try (first | with_reducible rfl | (apply And.intro <;> rfl)))
      simp only [Act.put, List.setIfInBounds_toArray, List.set_cons_zero, List.set_cons_succ]
      refine run_at (i := 5) (v := ?_) rfl (by kernel_rfl) (by rfl) (fun _ _ _ h => h) hHeld (fun w1 hw1 => ?_) ?_
      rotate_left 1
      · skip
        go_simp
        (try (first | with_reducible rfl | (apply And.intro <;> rfl)))
      simp only [Act.put, List.setIfInBounds_toArray, List.set_cons_zero, List.set_cons_succ]
      refine run_at (i := 6) (v := ?_) rfl (by kernel_rfl) (by rfl) (fun _ _ _ h => h) hHeld (fun w1 hw1 => ?_) ?_
      rotate_left 1
      · skip
        go_simp
        (try (first | with_reducible rfl | (apply And.intro <;> rfl)))
      simp only [Act.put, List.setIfInBounds_toArray, List.set_cons_zero, List.set_cons_succ]
      refine run_at (i := 7) (v := ?_) rfl (by kernel_rfl) (by rfl) (fun _ _ _ h => h) hHeld (fun w1 hw1 => ?_) ?_
      rotate_left 1
      · skip
        have hcw0 := hw1.cell (h0) (by first | (simp; done) | exact HNS.out | exact HNW.out | (intro hm; have hlt := HSB.out _ hm; (try dsimp only at hlt); omega))
        go_simp
        (try (first | with_reducible rfl | (apply And.intro <;> rfl)))
      simp only [Act.put, List.setIfInBounds_toArray, List.set_cons_zero, List.set_cons_succ]
      refine run_at (i := 8) (v := ?_) rfl (by kernel_rfl) (by rfl) (fun _ _ _ h => h) hHeld (fun w1 hw1 => ?_) ?_
      rotate_left 1
      · skip
        go_simp
        (try (first | with_reducible rfl | (apply And.intro <;> rfl)))
      simp only [Act.put, List.setIfInBounds_toArray, List.set_cons_zero, List.set_cons_succ]
      refine run_at (i := 9) (v := ?_) rfl (by kernel_rfl) (by rfl) (fun _ _ _ h => h) hHeld (fun w1 hw1 => ?_) ?_
      rotate_left 1
      · skip
        go_simp
        (try (first | with_reducible rfl | (apply And.intro <;> rfl)))
      simp only [Act.put, List.setIfInBounds_toArray, List.set_cons_zero, List.set_cons_succ]
      refine wpAnyH_done (by kernel_rfl) ?_ _
      have HRY := Lib.hid (HRX.out.keep (U' := v :: U) hHeld (by simp) (fun _ hx _ => hx))
      have HFY := Lib.hid (HFX.out.trans hHeld (by simp))
      clear hHeld h0 h1 HRX HFX
      generalize wa.drew = wd at *
      by_cases hsl : (s1 : Int) < ((rowsB L).length : Int)
      · go_wp2_with fail
        refine (rsync_any wd (v :: U) g _ HRY.out (by simp [cs])).mono ?_
        rintro e wz ⟨rfl, hdz, hfz⟩
        have HRZ : Hid (RD wz (v :: U) g (cl L)) := Lib.hid hdz
        have HFZ := Lib.hid (HFY.out.trans hfz (fun x hx _ => hx))
        clear hdz hfz
        rw [show errB (cs (rowsB L) s1).passB = 0 from rfl]
        go_wp2
        go_ret2
        exact ⟨v, rfl, Nat.le_of_eq HV.out, ⟨HRZ.out, A8, c8, rs, HBV.out.keep HFZ.out (by simp; exact HVG.out), HGL.out.keep HFZ.out (by simp) (fun _ hx _ => hx), HM.out, HVU.out⟩, (HO.out.fr.mono (by simp)).trans HFZ.out (fun x hx _ => hx)⟩
      · have HSE : Hid (cs (rowsB L) s1 = cl L) := Lib.hid (by
          have : s1 = (rowsB L).length := by have := HS1L.out; omega
          rw [this]
          rfl)
        rw [HSE.out] at HRY
        go_wp2
        go_ret2
        exact ⟨v, rfl, Nat.le_of_eq HV.out, ⟨HRY.out, A8, c8, rs, HBV.out.keep HFY.out (by simp; exact HVG.out), HGL.out.keep HFY.out (by simp) (fun _ hx _ => hx), HM.out, HVU.out⟩, (HO.out.fr.mono (by simp)).trans HFY.out (fun x hx _ => hx)⟩
    · have hn0 : ((rowsB L).length : Int) < (N : Int) := by rw [← HN.out, HLN.out]; have := List.length_pos_iff.2 hT; omega
      go_wp2_with fail
      refine (rcut_cs wa (v :: U) g (rowsB L ++ T) s HRDa.out (rowsB L).length (by rw [HLN.out]; omega) (by have := HR.out; omega)).mono ?_
      rintro e wx ⟨rfl, hdx, hfx⟩
      rw [List.take_left] at hdx
      have HS1L : Hid (min s (rowsB L).length ≤ (rowsB L).length) := Lib.hid (Nat.min_le_right _ _)
      generalize min s (rowsB L).length = s1 at *
      have HRX := Lib.hid hdx
      have HFX := Lib.hid hfx
      clear hdx hfx hn0 hd0
      obtain ⟨Ax, cx, fx, hx, -⟩ := HRX.out
      obtain ⟨h0, h1, -, -, -⟩ := hx.cells
      simp only [cs] at h0 h1
      clear hx
      go_upto_region 15 with (fail)
      refine wp_region_held_drew (S := Fr [] wx) (by kernel_rfl) (Fr.drew (Fr.refl _ wx)) (fun hHeld => ?_)
      refine run_at (i := 0) (v := ?_) rfl (by kernel_rfl) (by rfl) (fun _ _ _ h => h) hHeld (fun w1 hw1 => ?_) ?_
      rotate_left 1
      · skip
        go_simp
        (try (first | with_reducible rfl | (apply And.intro <;> rfl)))
      simp only [Act.put, List.setIfInBounds_toArray, List.set_cons_zero, List.set_cons_succ]
      refine run_at (i := 1) (v := ?_) rfl (by kernel_rfl) (by rfl) (fun _ _ _ h => h) hHeld (fun w1 hw1 => ?_) ?_
      rotate_left 1
      · skip
        go_simp
        (try (first | with_reducible rfl | (apply And.intro <;> rfl)))
      simp only [Act.put, List.setIfInBounds_toArray, List.set_cons_zero, List.set_cons_succ]
      refine run_at (i := 2) (v := ?_) rfl (by kernel_rfl) (by rfl) (fun _ _ _ h => h) hHeld (fun w1 hw1 => ?_) ?_
      rotate_left 1
      · skip
        go_simp
        (try (first | with_reducible rfl | (apply And.intro <;> rfl)))
      simp only [Act.put, List.setIfInBounds_toArray, List.set_cons_zero, List.set_cons_succ]
      refine run_at (i := 3) (v := ?_) rfl (by kernel_rfl) (by rfl) (fun _ _ _ h => h) hHeld (fun w1 hw1 => ?_) ?_
      rotate_left 1
      · skip
        have hcw0 := hw1.cell (h1) (by first | (simp; done) | exact HNS.out | exact HNW.out | (intro hm; have hlt := HSB.out _ hm; (try dsimp only at hlt); omega))
        go_simp
        (try (first | with_reducible rfl | (apply And.intro <;> rfl)))
      simp only [Act.put, List.setIfInBounds_toArray, List.set_cons_zero, List.set_cons_succ]
      refine run_at (i := 4) (v := ?_) rfl (by kernel_rfl) (by rfl) (fun _ _ _ h => h) hHeld (fun w1 hw1 => ?_) ?_
      rotate_left 1
      · skip
        go_simp
        (try (first | with_reducible rfl | (apply And.intro <;> rfl)))
      simp only [Act.put, List.setIfInBounds_toArray, List.set_cons_zero, List.set_cons_succ]
      refine run_at (i := 5) (v := ?_) rfl (by kernel_rfl) (by rfl) (fun _ _ _ h => h) hHeld (fun w1 hw1 => ?_) ?_
      rotate_left 1
      · skip
        go_simp
        (try (first | with_reducible rfl | (apply And.intro <;> rfl)))
      simp only [Act.put, List.setIfInBounds_toArray, List.set_cons_zero, List.set_cons_succ]
      refine run_at (i := 6) (v := ?_) rfl (by kernel_rfl) (by rfl) (fun _ _ _ h => h) hHeld (fun w1 hw1 => ?_) ?_
      rotate_left 1
      · skip
        go_simp
        (try (first | with_reducible rfl | (apply And.intro <;> rfl)))
      simp only [Act.put, List.setIfInBounds_toArray, List.set_cons_zero, List.set_cons_succ]
      refine run_at (i := 7) (v := ?_) rfl (by kernel_rfl) (by rfl) (fun _ _ _ h => h) hHeld (fun w1 hw1 => ?_) ?_
      rotate_left 1
      · skip
        have hcw0 := hw1.cell (h0) (by first | (simp; done) | exact HNS.out | exact HNW.out | (intro hm; have hlt := HSB.out _ hm; (try dsimp only at hlt); omega))
        go_simp
        (try (first | with_reducible rfl | (apply And.intro <;> rfl)))
      simp only [Act.put, List.setIfInBounds_toArray, List.set_cons_zero, List.set_cons_succ]
      refine run_at (i := 8) (v := ?_) rfl (by kernel_rfl) (by rfl) (fun _ _ _ h => h) hHeld (fun w1 hw1 => ?_) ?_
      rotate_left 1
      · skip
        go_simp
        (try (first | with_reducible rfl | (apply And.intro <;> rfl)))
      simp only [Act.put, List.setIfInBounds_toArray, List.set_cons_zero, List.set_cons_succ]
      refine run_at (i := 9) (v := ?_) rfl (by kernel_rfl) (by rfl) (fun _ _ _ h => h) hHeld (fun w1 hw1 => ?_) ?_
      rotate_left 1
      · skip
        go_simp
        (try (first | with_reducible rfl | (apply And.intro <;> rfl)))
      simp only [Act.put, List.setIfInBounds_toArray, List.set_cons_zero, List.set_cons_succ]
      refine wpAnyH_done (by kernel_rfl) ?_ _
      have HRY := Lib.hid (HRX.out.keep (U' := v :: U) hHeld (by simp) (fun _ hx _ => hx))
      have HFY := Lib.hid (HFX.out.trans hHeld (by simp))
      clear hHeld h0 h1 HRX HFX
      generalize wx.drew = wd at *
      by_cases hsl : (s1 : Int) < ((rowsB L).length : Int)
      · go_wp2_with fail
        refine (rsync_any wd (v :: U) g _ HRY.out (by simp [cs])).mono ?_
        rintro e wz ⟨rfl, hdz, hfz⟩
        have HRZ : Hid (RD wz (v :: U) g (cl L)) := Lib.hid hdz
        have HFZ := Lib.hid (HFY.out.trans hfz (fun x hx _ => hx))
        clear hdz hfz
        rw [show errB (cs (rowsB L) s1).passB = 0 from rfl]
        go_wp2
        go_ret2
        exact ⟨v, rfl, Nat.le_of_eq HV.out, ⟨HRZ.out, A8, c8, rs, HBV.out.keep HFZ.out (by simp; exact HVG.out), HGL.out.keep HFZ.out (by simp) (fun _ hx _ => hx), HM.out, HVU.out⟩, (HO.out.fr.mono (by simp)).trans HFZ.out (fun x hx _ => hx)⟩
      · have HSE : Hid (cs (rowsB L) s1 = cl L) := Lib.hid (by
          have : s1 = (rowsB L).length := by have := HS1L.out; omega
          rw [this]
          rfl)
        rw [HSE.out] at HRY
        go_wp2
        go_ret2
        exact ⟨v, rfl, Nat.le_of_eq HV.out, ⟨HRY.out, A8, c8, rs, HBV.out.keep HFY.out (by simp; exact HVG.out), HGL.out.keep HFY.out (by simp) (fun _ hx _ => hx), HM.out, HVU.out⟩, (HO.out.fr.mono (by simp)).trans HFY.out (fun x hx _ => hx)⟩
end Go.Proofs.Ytdakilioikhhbaa
