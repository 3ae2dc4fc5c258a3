/- gavelref01's Book: Sign and Copy. -/
import Derived.Test.YtjlmackfmmaknaaRefB
import Derived.Deep.AppendLies
namespace Go.Proofs.Ytjlmackfmmaknaa
set_option maxRecDepth 100000
open Go.RowKit

theorem signed_info : (Try.prog.info? 121).map (fun i => (i.zero, i.size, i.bytes)) = some (some (.agg #[.int .i64 0, .string ByteArray.empty]), 2, 24) := by kernel_rfl
theorem mrk_at {l : List Ent} (hnd : l.Nodup) {i : Nat} {e : Ent} (hi : l[i]? = some e) : e ∈ l ∧ mrk l e = (i : Int) + 1 := by
  obtain ⟨hl, hg⟩ := List.getElem?_eq_some_iff.1 hi
  refine ⟨by rw [← hg]; exact List.getElem_mem hl, ?_⟩
  unfold mrk
  have hidx : l.idxOf e = i := by rw [← hg]; exact List.Nodup.idxOf_getElem hnd i hl
  rw [hidx]
  simp

set_option maxRecDepth 100000 in
set_option maxHeartbeats 2000000 in
theorem refsign_any (w : World) (S : List Nat) (g : Nat) (l : List Ent) (h : RBk w S g l) (hnd : l.Nodup) (x : Int) (A : Option Addr) (n c : Nat) (t : List UInt8) (hy : By w A n t) (hll : l.length < 1048576) :
    Calls Try.prog 40 #[.pointer (some ⟨g, 0, none⟩), .int .i64 x, .slice A n c] w fun e w' => e = .returned (.agg #[.int .i64 x, .int .i64 (mrk (sgn l (x, t)) (x, t))]) ∧
      ∃ S', RBk w' S' g (sgn l (x, t)) ∧ Fr S w w' ∧ ∀ y ∈ S', y < w.heap.size → y ∈ S := by
  have HB := Lib.hid h
  have HY := Lib.hid hy
  have HND := Lib.hid hnd
  have HL := Lib.hid hll
  clear h hy hnd hll
  have hfa : Fr [] w (w.alloc (Obj.cells #[.int .i64 0, .int .i64 0] 39)) := (Fr.refl [] w).alloc _
  have hba : Blk (w.alloc (Obj.cells #[.int .i64 0, .int .i64 0] 39)) w.heap.size 39 #[.int .i64 0, .int .i64 0] := Blk.new _ _ _
  have HB1 := Lib.hid (HB.out.keep hfa (by simp))
  have HY1 := Lib.hid (HY.out.keep hfa (by simp))
  have HG0 := Lib.hid (show ¬ g = w.heap.size by have := HB.out.lt g (by obtain ⟨_, _, rfl, _⟩ := HB.out; simp); omega)
  have HGS := Lib.hid (show ¬ w.heap.size ∈ S from fun hh => by have := HB.out.lt _ hh; omega)
  have HFIN := Lib.hid (show ∀ w', Fr (w.heap.size :: S) (w.alloc (Obj.cells #[.int .i64 0, .int .i64 0] 39)) w' → Fr S w w' from fun w' h => (hfa.mono (T := S) (by simp)).trans h (by intro y hy hl; simp at hy; rcases hy with rfl | hy; exact absurd hl (by omega); exact hy))
  have HSZ := Lib.hid (show w.heap.size < (w.alloc (Obj.cells #[.int .i64 0, .int .i64 0] 39)).heap.size by simp)
  have HBA := Lib.hid hba
  have HSS := Lib.hid (show ∀ y, y < w.heap.size → y < (w.alloc (Obj.cells #[.int .i64 0, .int .i64 0] 39)).heap.size by intro y h; simp; omega)
  obtain ⟨A0, c0, hS, hcb, hcells⟩ := HB1.out.cells
  have HCS := Lib.hid hcells
  have HHS := Lib.hid hS
  have hconv := fun k : Nat => conv_text A n c t ((w.alloc (Obj.cells #[.int .i64 0, .int .i64 0] 39)).drewN k) (HY1.out.drewN k)
  clear hcells hfa hba HB HY hS
  go_enter Try.func40, Try.ntmps40
  go_wp2
  generalize w.alloc (Obj.cells #[.int .i64 0, .int .i64 0] 39) = wa at *
  generalize hgs : w.heap.size = gs at *
  have HGE := Lib.hid hgs
  clear hgs
  have hs0 := HBA.out.cell 0
  have hs1 := HBA.out.cell 1
  have hz0 := HBA.out.frozen 0
  have hz1 := HBA.out.frozen 1
  simp at hs0 hs1
  go_loopw [13] (fun i wr => ∃ (k q : Nat), k ≤ l.length ∧ i = .int .i64 k ∧ wr = wa.drewN q ∧ Hid (∀ j, j < k → l[j]? ≠ some (x, t))) (fun i _ => l.length - (intOf i).toNat)
  case atStart => exact ⟨0, 0, by omega, rfl, rfl, Lib.hid (by intro j hj; omega)⟩
  case round =>
    obtain ⟨k, q, hk, rfl, rfl, HNO⟩ := hrel
    by_cases hlt : k < l.length
    · have hn1 : (l.length : Int) ≤ 9223372036854775807 := by have := HL.out; omega
      have hge : l[k]? = some l[k] := List.getElem?_eq_getElem hlt
      generalize l[k] = e at *
      obtain ⟨gq, rfl, hca, hcs⟩ := HCS.out k e hge
      obtain ⟨x', t'⟩ := e
      simp only at hca hcs
      have hi0 : (0 : Int) ≤ k := by omega
      by_cases hx : x' = x
      · subst hx
        have hxe : (x' == x') = true := by simp
        by_cases ht : t' = t
        · subst ht
          have hte : (t' == t') = true := by simp
          have HMK := Lib.hid (mrk_at HND.out hge)
          have hk1 : IntKind.i64.wrap ((k : Int) + 1) = (k : Int) + 1 := IntWalk.i64_in _ (by have := HL.out; omega)
          clear hge
          go_wp2
          go_quiet (fail)
          go_wp2
          have hbf := ((HBA.out.drewN (q + nq)).set 0 (.int .i64 x')).set 1 (.int .i64 ((k : Int) + 1))
          have hfr : Fr [gs] wa _ := (((Fr.refl [gs] wa).drewN (q + nq)).setCell ⟨gs, 0, none⟩ (by simp) (.int .i64 x')).setCell ⟨gs, 1, none⟩ (by simp) (.int .i64 ((k : Int) + 1))
          have hbw := HB1.out.keep hfr (fun y hy hm => HGS.out (by simp at hm; rw [← hm]; exact hy))
          have hff := HFIN.out _ ((((Fr.refl (gs :: S) wa).drewN (q + nq)).setCell ⟨gs, 0, none⟩ (by simp) (.int .i64 x')).setCell ⟨gs, 1, none⟩ (by simp) (.int .i64 ((k : Int) + 1)))
          generalize ((wa.drewN (q + nq)).setCell ⟨gs, 0, none⟩ (.int .i64 x')).setCell ⟨gs, 1, none⟩ (.int .i64 ((k : Int) + 1)) = wf at *
          have hf0 := hbf.cell 0
          have hf1 := hbf.cell 1
          simp at hf0 hf1
          have hm1 := HMK.out.1
          have e1 : sgn l (x', t') = l := if_pos hm1
          refine bodyPost_ret (v := .agg #[.int .i64 x', .int .i64 ((k : Int) + 1)]) (by simp [results, Try.results40, go_sem, hf0, hf1]) rfl ⟨by rw [e1, HMK.out.2], S, ?_, hff, fun y hy _ => hy⟩
          rw [e1]
          exact hbw
        · have hte : (t' == t) = false := by simp [ht]
          go_wp2
          go_quiet (fail)
          go_wp2
          go_roundw
          case rel =>
            refine ⟨k + 1, q + nq, by omega, by go_num, rfl, Lib.hid fun j hj => ?_⟩
            rcases Nat.lt_or_ge j k with h | h
            · exact HNO.out j h
            · have e : j = k := by omega
              subst e
              rw [hge]
              simp [ht]
          case measure => simp [intOf]; omega
      · have hxe : (x' == x) = false := by simp [hx]
        go_wp2
        go_quiet (fail)
        go_wp2
        go_roundw
        case rel =>
          refine ⟨k + 1, q + nq, by omega, by go_num, rfl, Lib.hid fun j hj => ?_⟩
          rcases Nat.lt_or_ge j k with h | h
          · exact HNO.out j h
          · have e : j = k := by omega
            subst e
            rw [hge]
            simp [hx]
        case measure => simp [intOf]; omega
    · have hkl : k = l.length := by omega
      subst hkl
      have hn1 : (l.length : Int) ≤ 9223372036854775807 := by have := HL.out; omega
      have hnm : ¬ (x, t) ∈ l := by
        intro hm
        obtain ⟨j, hj, he⟩ := List.getElem_of_mem hm
        exact HNO.out j hj (by rw [List.getElem?_eq_getElem hj, he])
      have HNM := Lib.hid hnm
      clear HNO hnm
      obtain ⟨i, hi0, hz0', hz1', hz2'⟩ := info_parts signed_info
      obtain ⟨A0', c0', hS2, hb, ho⟩ := HB1.out
      have hcb2 := hb.cell 0
      simp at hcb2
      rw [hcb] at hcb2
      injection hcb2 with hcb2
      injection hcb2 with hA1 _ hC1
      subst hA1
      subst hC1
      have HSB := Lib.hid hS2
      have HB := Lib.hid hb
      have HO := Lib.hid ho
      have HNG := Lib.hid (own_ne ho hb (by decide))
      have HNS := Lib.hid (show (Value.slice A0 l.length c0).ownBlock ≠ some gs from fun e => HGS.out (by rw [hS2]; rw [bk_mem] at e; simp [e]))
      have hcbw := (hb.keep (((Fr.refl [] wa).drewN (q + 1)).alloc (Obj.cells #[.int .i64 x, .string ⟨t.toArray⟩] 121)) (by simp)).cell 0
      generalize hww : (wa.drewN (q + 1)).alloc (Obj.cells #[.int .i64 x, .string ⟨t.toArray⟩] 121) = ww at hcbw
      simp at hcbw
      rw [← hww] at hcbw
      clear hS2 hb ho hs0 hs1 hz0 hz1 hww
      go_wp2
      go_region_law (first
        | (refine step_append_lies _ rfl (.tmp 48) (.tmp 53) _ rfl 0 121 i (.agg #[.int .i64 0, .string ByteArray.empty]) 2 24 Try.underlying26 hi0 hz0' hz1' hz2' rfl (by omega) (.slice A0 l.length c0) l.length (l.flatMap ecells) rfl (own_keep HO.out (((Fr.refl [] wa).drewN (q + 1)).alloc _) (by simp)) ⟨wa.heap.size, 0, none⟩ 1 1 (ecells (x, t)) rfl rfl ?_ ?_ (by omega) (by have := HL.out; simp only [maxLen]; omega) (by have := HL.out; omega) (Nat.zero_le _) _ rfl ?_
           · intro j u hj
             have hbb : Blk ((wa.drewN (q + 1)).alloc (Obj.cells #[.int .i64 x, .string ⟨t.toArray⟩] 121)) wa.heap.size 121 #[.int .i64 x, .string ⟨t.toArray⟩] := Blk.new _ _ _
             have hadd : (⟨wa.heap.size, 0, none⟩ : Addr).add j = ⟨wa.heap.size, j, none⟩ := by unfold Addr.add; split <;> simp_all
             rw [hadd]
             have := hbb.cell j
             rw [this, ← hj]
             simp [ecells]
           · intro u hu
             simp [ecells] at hu
             rcases hu with rfl | rfl <;> rfl
           intro g1 c1 w1 ho1 hgr1 hat1 hlt1
           have hfw : Fr [] wa ((wa.drewN (q + 1)).alloc (Obj.cells #[.int .i64 x, .string ⟨t.toArray⟩] 121)) := ((Fr.refl [] wa).drewN (q + 1)).alloc _
           have hf1 : Fr S wa w1 := (hfw.mono (T := S) (by simp)).grown hgr1 (fun k hk _ => by rw [HSB.out]; rw [bk_mem] at hk; simp [hk])
           have hb1 := (HB.out.keep hfw (by simp)).grown hgr1 HNG.out
           have hs1 := (HBA.out.keep hfw (by simp)).grown hgr1 HNS.out
           have hzg := hb1.frozen 0
           have hcg := hb1.cell 0
           have hne1 : ¬ g = gs := HG0.out
           have hne2 : ¬ gs = g := fun e => HG0.out e.symm
           have hs2 := hs1.keep ((Fr.refl [g] w1).setCell ⟨g, 0, none⟩ (by simp) (.slice (some ⟨g1, 0, none⟩) (l.length + 1) c1)) (by simpa using hne2)
           have hb2 := hb1.set 0 (.slice (some ⟨g1, 0, none⟩) (l.length + 1) c1)
           generalize hw2 : w1.setCell ⟨g, 0, none⟩ (.slice (some ⟨g1, 0, none⟩) (l.length + 1) c1) = w2 at hs2 hb2
           have hc0 := hs2.cell 0
           have hc1 := hs2.cell 1
           have hz0 := hs2.frozen 0
           have hz1 := hs2.frozen 1
           have hc2 := hb2.cell 0
           simp at hcg hc0 hc1 hc2
           rw [← hw2] at hc0 hc1 hz0 hz1 hc2
           clear hs2 hb2 hw2
           have HF1 := Lib.hid hf1
           have HB1' := Lib.hid hb1
           have HS1' := Lib.hid hs1
           have HO1 := Lib.hid ho1
           have HG1 := Lib.hid (show g1 ≠ gs ∧ (g1 < gs → g1 ∈ S) from by
             rcases hat1 with h | h
             · refine ⟨fun e => HNS.out (by rw [h, e]), fun _ => ?_⟩
               rw [HSB.out]
               rw [bk_mem] at h
               simp [h]
             · have := HSZ.out
               simp at h
               exact ⟨by omega, fun hl => by omega⟩)
           clear hf1 hb1 hs1 ho1 hat1 hgr1 hlt1 hfw hcb hcbw))
      all_goals
        have HB2 := Lib.hid (HB1'.out.set 0 (.slice (some ⟨g1, 0, none⟩) (l.length + 1) c1))
        have hf2 : Fr [g] w1 (w1.setCell ⟨g, 0, none⟩ (.slice (some ⟨g1, 0, none⟩) (l.length + 1) c1)) := (Fr.refl _ _).setCell _ (by simp) _
        have HS2 := Lib.hid (HS1'.out.keep hf2 (by simpa using hne2))
        have HF2 := Lib.hid ((HF1.out.setCell ⟨g, 0, none⟩ (fun _ => by rw [HSB.out]; simp) (.slice (some ⟨g1, 0, none⟩) (l.length + 1) c1)))
        have HNE1 := Lib.hid (own_ne HO1.out HB1'.out (by decide))
        have HO2 := Lib.hid (own_keep HO1.out hf2 (fun k hk hm => HNE1.out (by simp at hm; rw [hk, hm])))
        clear hf2 HF1 HB1' HS1' HO1 hcg hzg
        generalize w1.setCell ⟨g, 0, none⟩ (.slice (some ⟨g1, 0, none⟩) (l.length + 1) c1) = w2 at *
        go_wp2
        have hbf := (HS2.out.set 0 (.int .i64 x)).set 1 (.int .i64 ((l.length : Int) + 1))
        have hf3 : Fr [gs] w2 ((w2.setCell ⟨gs, 0, none⟩ (.int .i64 x)).setCell ⟨gs, 1, none⟩ (.int .i64 ((l.length : Int) + 1))) := (((Fr.refl _ _).setCell _ (by simp) _).setCell _ (by simp) _)
        have hff := HFIN.out _ ((HF2.out.mono (T := gs :: S) (fun k hk _ => by simp [hk])).trans hf3 (by simp))
        have hb3 := HB2.out.keep hf3 (by simpa using hne1)
        have ho3 := own_keep HO2.out hf3 (fun k hk hm => HG1.out.1 (by simp at hm; subst hm; simpa [Value.ownBlock] using hk))
        generalize (w2.setCell ⟨gs, 0, none⟩ (.int .i64 x)).setCell ⟨gs, 1, none⟩ (.int .i64 ((l.length : Int) + 1)) = wf at *
        have hf0 := hbf.cell 0
        have hf1 := hbf.cell 1
        simp at hf0 hf1
        have e1 : sgn l (x, t) = l ++ [(x, t)] := if_neg HNM.out
        refine bodyPost_ret (v := .agg #[.int .i64 x, .int .i64 ((l.length : Int) + 1)]) (by simp [results, Try.results40, go_sem, hf0, hf1]) rfl ⟨by rw [e1, mrk_new HNM.out]; rfl, [g, g1], ?_, hff, ?_⟩
        · rw [e1]
          refine ⟨some ⟨g1, 0, none⟩, c1, rfl, ?_, ?_⟩
          · simpa using hb3
          · simpa using ho3
        · intro y hy hl
          rw [HGE.out] at hl
          simp at hy
          rcases hy with rfl | rfl
          · rw [HSB.out]; simp
          · exact HG1.out.2 hl
end Go.Proofs.Ytjlmackfmmaknaa
