/- The document's own disk: crashes and cuts; its logs (gavelref07.Wal): Open and Put. -/
import Derived.Test.YtdakilioikhhbaaRfd
import Derived.Test.YtdakilioikhhbaaWlt
import Derived.Test.YtdakilioikhhbaaRefW
namespace Go.Proofs.Ytdakilioikhhbaa
set_option maxRecDepth 100000
open Go.RowKit

set_option maxHeartbeats 1000000 in
theorem rcrash_any (w : World) (U : List Nat) (g : Nat) (d : Dsk) (h : RD w U g d) (hd : DOk d) (keep : Int) (hk : -9223372036854775808 ≤ keep ∧ keep < 9223372036854775808) :
    Calls Try.prog 23 #[.pointer (some ⟨g, 0, none⟩), .int .i64 keep] w fun e w' => e = .returned (.tuple #[]) ∧ RD w' U g (d.crash keep) ∧ Fr [g] w w' := by
  obtain ⟨A, c, f, h, hx⟩ := h
  have HX := Lib.hid hx
  have H := Lib.hid h
  obtain ⟨h0, h1, -, -, -⟩ := h.cells
  have HKP : Hid (keptN d keep ≤ d.row.length) := Lib.hid (by have := hd.syn; unfold keptN; omega)
  have HW : Hid (IntKind.i64.wrap ((d.syn : Int) + if IntKind.i64.wrap ((d.row.length : Int) - (d.syn : Int)) < (if keep < 0 then 0 else keep) then IntKind.i64.wrap ((d.row.length : Int) - (d.syn : Int)) else if keep < 0 then 0 else keep) = (keptN d keep : Nat)) := Lib.hid (by
    have h1 := hd.len
    have h2 := hd.syn
    have hw : IntKind.i64.wrap ((d.row.length : Int) - (d.syn : Int)) = (d.row.length : Int) - (d.syn : Int) := by rw [IntKind.wrap_i64]; omega
    rw [hw, IntKind.wrap_i64]
    unfold keptN
    split <;> split <;> omega)
  clear h hx hd hk
  go_enter Try.func23, Try.ntmps23
  go_upto_region 0 with (fail)
  refine wp_region_held_drew (S := Fr [] w) (by kernel_rfl) (Fr.drew (Fr.refl _ w)) (fun hHeld => ?_)
  have HD : Hid (RDA w.drew g d A c f) := Lib.hid H.out.drew
  have HFD : Hid (Fr [] w w.drew) := Lib.hid (Fr.drew (Fr.refl [] w))
  generalize w.drew = wd at *
  refine run_at (i := 0) (v := ?_) rfl (by kernel_rfl) (by rfl) (fun _ _ _ h => h) hHeld (fun w1 hw1 => ?_) ?_
  rotate_left 1
  · skip
    go_simp
    (try (first | with_reducible rfl | (apply And.intro <;> rfl)))
  simp only [Act.put, List.setIfInBounds_toArray, List.set_cons_zero, List.set_cons_succ]
  refine run_at (i := 1) (v := ?_) rfl (by kernel_rfl) (by rfl) (fun _ _ _ h => h) hHeld (fun w1 hw1 => ?_) ?_
  rotate_left 1
  · skip
    go_simp
    (try (first | with_reducible rfl | (apply And.intro <;> rfl)))
  simp only [Act.put, List.setIfInBounds_toArray, List.set_cons_zero, List.set_cons_succ]
  refine run_at (i := 2) (v := ?_) rfl (by kernel_rfl) (by rfl) (fun _ _ _ h => h) hHeld (fun w1 hw1 => ?_) ?_
  rotate_left 1
  · skip
    go_simp
    (try (first | with_reducible rfl | (apply And.intro <;> rfl)))
  simp only [Act.put, List.setIfInBounds_toArray, List.set_cons_zero, List.set_cons_succ]
  refine run_at (i := 3) (v := ?_) rfl (by kernel_rfl) (by rfl) (fun _ _ _ h => h) hHeld (fun w1 hw1 => ?_) ?_
  rotate_left 1
  · skip
    have hcw0 := hw1.cell (h1) (by first | (simp; done) | exact HNS.out | exact HNW.out | (intro hm; have hlt := HSB.out _ hm; (try dsimp only at hlt); omega))
    go_simp
    (try (first | with_reducible rfl | (apply And.intro <;> rfl)))
  simp only [Act.put, List.setIfInBounds_toArray, List.set_cons_zero, List.set_cons_succ]
  refine run_at (i := 4) (v := ?_) rfl (by kernel_rfl) (by rfl) (fun _ _ _ h => h) hHeld (fun w1 hw1 => ?_) ?_
  rotate_left 1
  · skip
    go_simp
    (try (first | with_reducible rfl | (apply And.intro <;> rfl)))
  simp only [Act.put, List.setIfInBounds_toArray, List.set_cons_zero, List.set_cons_succ]
  refine run_at (i := 5) (v := ?_) rfl (by kernel_rfl) (by rfl) (fun _ _ _ h => h) hHeld (fun w1 hw1 => ?_) ?_
  rotate_left 1
  · skip
    go_simp
    (try (first | with_reducible rfl | (apply And.intro <;> rfl)))
  simp only [Act.put, List.setIfInBounds_toArray, List.set_cons_zero, List.set_cons_succ]
  refine run_at (i := 6) (v := ?_) rfl (by kernel_rfl) (by rfl) (fun _ _ _ h => h) hHeld (fun w1 hw1 => ?_) ?_
  rotate_left 1
  · skip
    go_simp
    (try (first | with_reducible rfl | (apply And.intro <;> rfl)))
  simp only [Act.put, List.setIfInBounds_toArray, List.set_cons_zero, List.set_cons_succ]
  refine run_at (i := 7) (v := ?_) rfl (by kernel_rfl) (by rfl) (fun _ _ _ h => h) hHeld (fun w1 hw1 => ?_) ?_
  rotate_left 1
  · skip
    go_simp
    (try (first | with_reducible rfl | (apply And.intro <;> rfl)))
  simp only [Act.put, List.setIfInBounds_toArray, List.set_cons_zero, List.set_cons_succ]
  refine run_at (i := 8) (v := ?_) rfl (by kernel_rfl) (by rfl) (fun _ _ _ h => h) hHeld (fun w1 hw1 => ?_) ?_
  rotate_left 1
  · skip
    go_simp
    (try (first | with_reducible rfl | (apply And.intro <;> rfl)))
  simp only [Act.put, List.setIfInBounds_toArray, List.set_cons_zero, List.set_cons_succ]
  refine run_at (i := 9) (v := ?_) rfl (by kernel_rfl) (by rfl) (fun _ _ _ h => h) hHeld (fun w1 hw1 => ?_) ?_
  rotate_left 1
  · skip
    have hcw0 := hw1.cell (h0) (by first | (simp; done) | exact HNS.out | exact HNW.out | (intro hm; have hlt := HSB.out _ hm; (try dsimp only at hlt); omega))
    go_simp
    (try (first | with_reducible rfl | (apply And.intro <;> rfl)))
  simp only [Act.put, List.setIfInBounds_toArray, List.set_cons_zero, List.set_cons_succ]
  refine run_at (i := 10) (v := ?_) rfl (by kernel_rfl) (by rfl) (fun _ _ _ h => h) hHeld (fun w1 hw1 => ?_) ?_
  rotate_left 1
  · skip
    go_simp
    (try (first | with_reducible rfl | (apply And.intro <;> rfl)))
  simp only [Act.put, List.setIfInBounds_toArray, List.set_cons_zero, List.set_cons_succ]
  refine run_at (i := 11) (v := ?_) rfl (by kernel_rfl) (by rfl) (fun _ _ _ h => h) hHeld (fun w1 hw1 => ?_) ?_
  rotate_left 1
  · skip
    go_simp
    (try (first | with_reducible rfl | (apply And.intro <;> rfl)))
  simp only [Act.put, List.setIfInBounds_toArray, List.set_cons_zero, List.set_cons_succ]
  refine run_at (i := 12) (v := ?_) rfl (by kernel_rfl) (by rfl) (fun _ _ _ h => h) hHeld (fun w1 hw1 => ?_) ?_
  rotate_left 1
  · skip
    go_simp
    (try (first | with_reducible rfl | (apply And.intro <;> rfl)))
  simp only [Act.put, List.setIfInBounds_toArray, List.set_cons_zero, List.set_cons_succ]
  refine run_at (i := 13) (v := ?_) rfl (by kernel_rfl) (by rfl) (fun _ _ _ h => h) hHeld (fun w1 hw1 => ?_) ?_
  rotate_left 1
  · skip
    go_simp
    (try (first | with_reducible rfl | (apply And.intro <;> rfl)))
  simp only [Act.put, List.setIfInBounds_toArray, List.set_cons_zero, List.set_cons_succ]
  refine run_at (i := 14) (v := ?_) rfl (by kernel_rfl) (by rfl) (fun _ _ _ h => h) hHeld (fun w1 hw1 => ?_) ?_
  rotate_left 1
  · skip
    have hcw0 := hw1.cell (h1) (by first | (simp; done) | exact HNS.out | exact HNW.out | (intro hm; have hlt := HSB.out _ hm; (try dsimp only at hlt); omega))
    go_simp
    (try (first | with_reducible rfl | (apply And.intro <;> rfl)))
  simp only [Act.put, List.setIfInBounds_toArray, List.set_cons_zero, List.set_cons_succ]
  refine run_at (i := 15) (v := ?_) rfl (by kernel_rfl) (by rfl) (fun _ _ _ h => h) hHeld (fun w1 hw1 => ?_) ?_
  rotate_left 1
  · skip
    go_simp
    (try (first | with_reducible rfl | (apply And.intro <;> rfl)))
  simp only [Act.put, List.setIfInBounds_toArray, List.set_cons_zero, List.set_cons_succ]
  refine run_at (i := 16) (v := ?_) rfl (by kernel_rfl) (by rfl) (fun _ _ _ h => h) hHeld (fun w1 hw1 => ?_) ?_
  rotate_left 1
  · skip
    go_simp
    (try (first | with_reducible rfl | (apply And.intro <;> rfl)))
  simp only [Act.put, List.setIfInBounds_toArray, List.set_cons_zero, List.set_cons_succ]
  refine run_at (i := 17) (v := ?_) rfl (by kernel_rfl) (by rfl) (fun _ _ _ h => h) hHeld (fun w1 hw1 => ?_) ?_
  rotate_left 1
  · skip
    go_simp
    (try (first | with_reducible rfl | (apply And.intro <;> rfl)))
  simp only [Act.put, List.setIfInBounds_toArray, List.set_cons_zero, List.set_cons_succ]
  refine run_at (i := 18) (v := ?_) rfl (by kernel_rfl) (by rfl) (fun _ _ _ h => h) hHeld (fun w1 hw1 => ?_) ?_
  rotate_left 1
  · skip
    go_simp
    (try (first | with_reducible rfl | (apply And.intro <;> rfl)))
  simp only [Act.put, List.setIfInBounds_toArray, List.set_cons_zero, List.set_cons_succ]
  refine wpAnyH_done (by kernel_rfl) ?_ _
  rw [HW.out]
  clear h0 h1 hHeld HW
  have hcap := HD.out.cap
  have hln : (d.row.take (keptN d keep)).length = keptN d keep := by rw [List.length_take]; have := HKP.out; omega
  have HLN := Lib.hid hln
  have hq0 : (0 : Int) ≤ (keptN d keep : Nat) := by omega
  have hq1 : ((keptN d keep : Nat) : Int) ≤ c := by have := HKP.out; omega
  have HCR : Hid (d.crash keep = ⟨d.row.take (keptN d keep), keptN d keep, false, 0, false⟩) := Lib.hid rfl
  generalize keptN d keep = q at *
  have hb1 := HD.out.blk.set 0 (.slice A q q)
  have hb2 := hb1.set 1 (.int .i64 (q : Int))
  have hb3 := hb2.set 2 (.bool false)
  have hb4 := hb3.set 3 (.bool false)
  have hfr : Fr [g] wd ((((wd.setCell ⟨g, 0, none⟩ (.slice A q q)).setCell ⟨g, 1, none⟩ (.int .i64 (q : Int))).setCell ⟨g, 2, none⟩ (.bool false)).setCell ⟨g, 3, none⟩ (.bool false)) := ((((Fr.refl [g] wd).one (by simp) _ _).one (by simp) _ _).one (by simp) _ _).one (by simp) _ _
  have hR : RDA ((((wd.setCell ⟨g, 0, none⟩ (.slice A q q)).setCell ⟨g, 1, none⟩ (.int .i64 (q : Int))).setCell ⟨g, 2, none⟩ (.bool false)).setCell ⟨g, 3, none⟩ (.bool false)) g ⟨d.row.take q, q, false, 0, false⟩ A q f := by
    refine ⟨?_, ?_, by simp only [hln]; exact Nat.le_refl _, fun x hx => ⟨(HD.out.old x hx).1, Nat.lt_of_lt_of_le (HD.out.old x hx).2 hfr.size⟩, fun h => by cases h⟩
    · unfold rcells
      simp only [hln]
      exact hb4
    · simp only [hln]
      exact (HD.out.by_.take HKP.out).keep hfr (fun a ha hm => (HD.out.old a.block (by simp [bk, ha])).1 (by simpa using hm))
  have HR := Lib.hid hR
  have HF := Lib.hid (HFD.out.mono (T := [g]) (by simp) |>.trans hfr (fun x hx _ => hx))
  obtain ⟨h0, -, -, -, -⟩ := HD.out.cells
  have hz0 := HD.out.blk.frozen 0
  have hz1 := hb1.frozen 1
  have k1 := hb1.cell 1
  have hz2 := hb2.frozen 2
  have k2 := hb2.cell 2
  have hz3 := hb3.frozen 3
  have k3 := hb3.cell 3
  simp [rcells] at k1 k2 k3
  clear hb1 hb2 hb3 hb4 hfr hR hln hcap
  go_wp2
  all_goals
    go_end0
    exact ⟨rfl, by rw [HCR.out]; exact ⟨A, q, f, HR.out, HX.out⟩, HF.out⟩

set_option maxHeartbeats 1000000 in
theorem rcut_cs (w : World) (U : List Nat) (g : Nat) (r : List UInt8) (s : Nat) (h : RD w U g (cs r s)) (k : Nat) (hk : k ≤ r.length) (hr : r.length ≤ 1073741824) :
    Calls Try.prog 43 #[.pointer (some ⟨g, 0, none⟩), .int .i64 k] w fun e w' => e = .returned (.int .i64 0) ∧ RD w' U g (cs (r.take k) (min s k)) ∧ Fr [g] w w' := by
  obtain ⟨A, c, f, h, hx⟩ := h
  have HX := Lib.hid hx
  have HK := Lib.hid hk
  obtain ⟨h0, h1, h2, h3, -⟩ := h.cells
  simp [cs] at h0 h1 h2 h3
  have hk0 : ¬ (k : Int) < 0 := by omega
  have hk1 : ¬ (k : Int) > (r.length : Int) := by omega
  have H := Lib.hid h
  clear h hx hk
  go_enter Try.func43, Try.ntmps43
  go_wp2_with fail
  refine (rstop_any w g (cs r s) A c f H.out (by simp [cs])).mono ?_
  rintro e w1 ⟨rfl, ⟨f1, hd1⟩, hf1⟩
  have HD : Hid (RDA w1 g (cs r s) A c f1) := Lib.hid hd1
  have HF1 := Lib.hid hf1
  clear hd1 hf1 h0 h1 h2 h3 H hk0 hk1
  have hln : (r.take k).length = k := by rw [List.length_take]; have := HK.out; omega
  have hcap : r.length ≤ c := HD.out.cap
  have hq0 : (0 : Int) ≤ k := by omega
  have hq1 : (k : Int) ≤ c := by have := HK.out; omega
  have HM : Hid ((if (k : Int) < (s : Int) then (k : Int) else (s : Int)) = (min s k : Nat)) := Lib.hid (by split <;> omega)
  have hb1 := HD.out.blk.set 0 (.slice A k k)
  have hb2 := hb1.set 1 (.int .i64 (min s k : Nat))
  have hfr : Fr [g] w1 ((w1.setCell ⟨g, 0, none⟩ (.slice A k k)).setCell ⟨g, 1, none⟩ (.int .i64 (min s k : Nat))) := ((Fr.refl [g] w1).one (by simp) _ _).one (by simp) _ _
  have hR : RDA ((w1.setCell ⟨g, 0, none⟩ (.slice A k k)).setCell ⟨g, 1, none⟩ (.int .i64 (min s k : Nat))) g (cs (r.take k) (min s k)) A k f1 := by
    refine ⟨?_, ?_, by simp only [cs, hln]; exact Nat.le_refl _, fun x hx => ⟨(HD.out.old x hx).1, Nat.lt_of_lt_of_le (HD.out.old x hx).2 hfr.size⟩, fun h => by cases h⟩
    · unfold rcells
      simp only [cs, hln]
      exact hb2
    · simp only [cs, hln]
      have hy : By w1 A r.length r := HD.out.by_
      exact (hy.take HK.out).keep hfr (fun a ha hm => (HD.out.old a.block (by simp [bk, ha])).1 (by simpa using hm))
  have HR := Lib.hid hR
  have HF := Lib.hid (HF1.out.trans hfr (fun x hx _ => hx))
  obtain ⟨h0, -, -, -, -⟩ := HD.out.cells
  simp [cs] at h0
  have hz0 := HD.out.blk.frozen 0
  have hz1 := hb1.frozen 1
  have k1 := hb1.cell 1
  simp [rcells, cs] at k1
  clear hb1 hb2 hfr hR hln hcap
  generalize hsk : min s k = sk at *
  have HSE := Lib.hid hsk
  clear hsk
  by_cases hks : (k : Int) < s
  · have HSK : Hid ((k : Int) = (sk : Int)) := Lib.hid (by have := HM.out; rw [if_pos hks] at this; exact this)
    rw [← HSK.out] at HR HF
    clear HM
    go_wp2
    go_ret
    exact ⟨rfl, by rw [HSE.out]; exact ⟨A, k, f1, HR.out, HX.out⟩, HF.out⟩
  · have HSK : Hid ((s : Int) = (sk : Int)) := Lib.hid (by have := HM.out; rw [if_neg hks] at this; exact this)
    rw [← HSK.out] at HR HF
    clear HM
    go_wp2
    go_ret
    exact ⟨rfl, by rw [HSE.out]; exact ⟨A, k, f1, HR.out, HX.out⟩, HF.out⟩

/-- the document's log v on its disk g -/
def RL (w : World) (U : List Nat) (g v : Nat) (d : Dsk) (L : List (List UInt8)) : Prop :=
  RD w (v :: U) g d ∧ ∃ A c rs, Blk w v 52 #[.pointer (some ⟨g, 0, none⟩), .slice A L.length c] ∧ GL w (v :: g :: U) A L.length rs ∧ rs.map (·.b) = L ∧ ¬ v ∈ U
theorem RD.less {w : World} {U U' : List Nat} {g : Nat} {d : Dsk} (h : RD w U g d) (hU : ∀ x ∈ U', x ∈ U) : RD w U' g d := h.keep (S := []) (Fr.refl _ _) (by simp) (fun x hx _ => hU x hx)
theorem GL.less {w : World} {U U' : List Nat} {A : Option Addr} {n : Nat} {rs : List RowV} (h : GL w U A n rs) (hU : ∀ x ∈ U', x ∈ U) : GL w U' A n rs := h.keep (S := []) (Fr.refl _ _) (by simp) (fun x hx _ => hU x hx)
theorem RL.keep {w w' : World} {S U U' : List Nat} {g v : Nat} {d : Dsk} {L : List (List UInt8)} (h : RL w U g v d L) (hf : Fr S w w') (hS : ∀ x ∈ S, x ∈ U) (hU : ∀ x ∈ U', x < w.heap.size → x ∈ U) : RL w' U' g v d L := by
  obtain ⟨h1, A, c, rs, hb, hg, hr, hv⟩ := h
  have hvl := hb.lt
  have hgl := h1.lt
  refine ⟨h1.keep hf (fun x hx => by simp [hS x hx]) (fun x hx hl => ?_), A, c, rs, hb.keep hf (fun hm => hv (hS v hm)), hg.keep hf (fun x hx => by simp [hS x hx]) (fun x hx hl => ?_), hr, fun hm => hv (hU v hm hvl)⟩
  · rcases List.mem_cons.1 hx with rfl | hx
    · simp
    · simp [hU x hx hl]
  · rcases List.mem_cons.1 hx with rfl | hx
    · simp
    · rcases List.mem_cons.1 hx with rfl | hx
      · simp
      · simp [hU x hx hl]
theorem RL.disk {w w' : World} {U : List Nat} {g v : Nat} {d d' : Dsk} {L : List (List UInt8)} (h : RL w U g v d L) (hd : RD w' (v :: U) g d') (hf : Fr [g] w w') : RL w' U g v d' L := by
  obtain ⟨h1, A, c, rs, hb, hg, hr, hv⟩ := h
  have hne : ¬ v = g := fun e => h1.ne (by simp [e])
  exact ⟨hd, A, c, rs, hb.keep hf (by simpa using hne), hg.keep hf (by simp) (fun x hx _ => hx), hr, hv⟩

theorem GL.own {w : World} {U : List Nat} {A : Option Addr} {n c : Nat} {rs : List RowV} (ho : w.ownsRow 0 22 1 (.slice A n c) n (rs.map RowV.val)) (hy : ∀ r ∈ rs, By w r.A r.n r.b) (hb : ∀ x ∈ bk A, ¬ x ∈ U) (hr : ∀ r ∈ rs, ∀ x ∈ bk r.A, ¬ x ∈ U ∧ x < w.heap.size) : GL w U A n rs := by
  refine ⟨Rl.own ho hy, fun x hx => ?_⟩
  rcases mem_blks.1 hx with hx | ⟨r, hm, hx⟩
  · exact ⟨hb x hx, own_lt ho x (by rw [bk_mem]; exact hx)⟩
  · exact hr r hm x hx
theorem GL.by_ {w : World} {U : List Nat} {A : Option Addr} {n : Nat} {rs : List RowV} (h : GL w U A n rs) : ∀ r ∈ rs, By w r.A r.n r.b ∧ ∀ x ∈ bk r.A, ¬ x ∈ U ∧ x < w.heap.size := fun r hr => by
  obtain ⟨i, hi⟩ := List.mem_iff_getElem?.1 hr
  have hn : 0 < n := by have h1 := (List.getElem?_eq_some_iff.1 hi).1; have h2 := h.1.1; omega
  obtain ⟨ad, _, hc⟩ := h.1.2 hn
  exact ⟨(hc i r hi).1, fun x hx => h.2 x (mem_blks.2 (.inr ⟨r, hr, hx⟩))⟩
set_option maxHeartbeats 2000000 in
theorem rlput_any (w : World) (U : List Nat) (g v : Nat) (d : Dsk) (L : List (List UInt8)) (h : RL w U g v d L) (hU : ∀ x ∈ U, x < w.heap.size) (hd : DOk d) (B : Option Addr) (n c : Nat) (b : List UInt8) (hy : By w B n b) (hB : ∀ x ∈ bk B, x ∈ U) (hn : n ≤ 65536) (hl1 : d.row.length ≤ 1000000000) (hL : L.length ≤ 100000) :
    Calls Try.prog 25 #[.pointer (some ⟨v, 0, none⟩), .slice B n c] w fun e w' => e = .returned (.int .i64 (errB (d.logB b))) ∧ RL w' U g v (d.logD b) (d.logL b L) ∧ Fr [g, v] w w' := by
  have H := Lib.hid h
  have HU := Lib.hid hU
  have HD := Lib.hid hd
  have HY := Lib.hid hy
  have HBU := Lib.hid hB
  have HL := Lib.hid hL
  have HL1 := Lib.hid hl1
  have hbl := hy.1
  have HRL : Hid ((enc n).length + n ≤ 65546) := Lib.hid (by have := enc_ten (show n < 18446744073709551616 by omega); omega)
  have HRE : Hid (enc n ++ b = rowB b) := Lib.hid (by unfold rowB; rw [hbl])
  obtain ⟨h1, A, cA, rs, hbv, hg, hr, hv⟩ := h
  have hcv := hbv.cell 0
  simp at hcv
  have HVG : Hid (¬ v ∈ [g]) := Lib.hid (fun hm => h1.ne (by simp at hm; simp [hm]))
  have HVL : Hid (v < w.heap.size) := Lib.hid hbv.lt
  have HBg : Hid (∀ x ∈ bk B, ¬ x = g ∧ ¬ x = v ∧ x < w.heap.size) := Lib.hid (fun x hx => ⟨fun e => h1.ne (by rw [← e]; simp [hB x hx]), fun e => hv (by rw [← e]; exact hB x hx), hU x (hB x hx)⟩)
  clear h1 hbv hg hr hv hU hd hy hB hL hl1
  go_enter Try.func25, Try.ntmps25
  go_upto_region 3 with (fail)
  have HNW : Hid (¬ v ∈ [g]) := HVG
  refine wp_region_held_drew (S := Fr [g] w) (by kernel_rfl) (Fr.drew (Fr.refl _ w)) (fun hHeld => ?_)
  have HFD : Hid (Fr [] w w.drew) := Lib.hid (Fr.drew (Fr.refl [] w))
  generalize w.drew = wd at *
  refine run_at (i := 0) (v := ?_) rfl (by kernel_rfl) (by rfl) (fun _ _ _ h => h) hHeld (fun w1 hw1 => ?_) ?_
  rotate_left 1
  · skip
    go_simp
    (try (first | with_reducible rfl | (apply And.intro <;> rfl)))
  simp only [Act.put, List.setIfInBounds_toArray, List.set_cons_zero, List.set_cons_succ]
  refine run_at (i := 1) (v := ?_) rfl (by kernel_rfl) (by rfl) (fun _ _ _ h => h) hHeld (fun w1 hw1 => ?_) ?_
  rotate_left 1
  · skip
    go_simp
    (try (first | with_reducible rfl | (apply And.intro <;> rfl)))
  simp only [Act.put, List.setIfInBounds_toArray, List.set_cons_zero, List.set_cons_succ]
  refine run_at (i := 2) (v := ?_) rfl (by kernel_rfl) (by rfl) (fun _ _ _ h => h) hHeld (fun w1 hw1 => ?_) ?_
  rotate_left 1
  · skip
    go_simp
    (try (first | with_reducible rfl | (apply And.intro <;> rfl)))
  simp only [Act.put, List.setIfInBounds_toArray, List.set_cons_zero, List.set_cons_succ]
  refine run_at (i := 3) (v := ?_) rfl (by kernel_rfl) (by rfl) (fun _ _ _ h => h) hHeld (fun w1 hw1 => ?_) ?_
  rotate_left 1
  · skip
    have hcw0 := hw1.cell (hcv) (by first | (simp; done) | exact HNS.out | exact HNW.out | (intro hm; have hlt := HSB.out _ hm; (try dsimp only at hlt); omega))
    go_simp
    (try (first | with_reducible rfl | (apply And.intro <;> rfl)))
  simp only [Act.put, List.setIfInBounds_toArray, List.set_cons_zero, List.set_cons_succ]
  refine run_at (i := 4) (v := ?_) rfl (by kernel_rfl) (by rfl) (fun _ _ _ h => h) hHeld (fun w1 hw1 => ?_) ?_
  rotate_left 1
  · skip
    go_simp
    (try (first | with_reducible rfl | (apply And.intro <;> rfl)))
  simp only [Act.put, List.setIfInBounds_toArray, List.set_cons_zero, List.set_cons_succ]
  refine call_at (i := 5) (f := ?_) (args := ?_) rfl (by kernel_rfl) (by rfl) ?_ ?_
  rotate_left 2
  · go_simp
    (try (first | with_reducible rfl | (apply And.intro <;> rfl)))
  refine (refrow_any B n c b wd (HY.out.keep HFD.out (by simp)) (fun k hk => by have := (HBg.out k hk).2.2; have := HFD.out.size; omega) (by omega)).mono ?_
  rintro e_ w1 ⟨A1, c1, rfl, hN1⟩
  refine ⟨_, rfl, hHeld.trans hN1.2.1 (by simp), fun hHeld => ?_⟩
  simp only [Act.put, List.setIfInBounds_toArray, List.set_cons_zero, List.set_cons_succ]
  rw [HRE.out] at hN1
  have HN1 := Lib.hid hN1
  have HF1 : Hid (Fr [] w w1) := Lib.hid (HFD.out.and hN1.2.1 (by simp))
  have H1 := Lib.hid (H.out.keep (U' := U) HF1.out (by simp) (fun _ hx _ => hx))
  clear hN1
  refine call_at (i := 6) (f := ?_) (args := ?_) rfl (by kernel_rfl) (by rfl) ?_ ?_
  rotate_left 2
  · go_simp
    (try (first | with_reducible rfl | (apply And.intro <;> rfl)))
  refine (rput_any w1 (v :: U) g d H1.out.1 (fun x hx => by
    have h2 := HF1.out.size
    rcases List.mem_cons.1 hx with rfl | hx
    · have := HVL.out; omega
    · have := HU.out x hx; omega) HD.out.left A1 _ c1 (rowB b) HN1.out.by (fun x hx e => by have h2 := HN1.out.2.2 x hx; have h3 := H.out.1.lt; have h4 := HFD.out.size; omega) (by have := HL1.out; have := HRL.out; omega)).mono ?_
  rintro e_ w2 ⟨rfl, hd2, hf2⟩
  refine ⟨_, rfl, hHeld.trans hf2 (fun x hx _ => hx), fun hHeld => ?_⟩
  simp only [Act.put, List.setIfInBounds_toArray, List.set_cons_zero, List.set_cons_succ]
  have H2 := Lib.hid (H1.out.disk hd2 hf2)
  have HF2 : Hid (Fr [g] w w2) := Lib.hid ((HF1.out.mono (T := [g]) (by simp)).trans hf2 (fun x hx _ => hx))
  clear hd2 hf2
  refine run_at (i := 7) (v := ?_) rfl (by kernel_rfl) (by rfl) (fun _ _ _ h => h) hHeld (fun w1 hw1 => ?_) ?_
  rotate_left 1
  · skip
    go_simp
    (try (first | with_reducible rfl | (apply And.intro <;> rfl)))
  simp only [Act.put, List.setIfInBounds_toArray, List.set_cons_zero, List.set_cons_succ]
  refine wpAnyH_done (by kernel_rfl) ?_ _
  clear hHeld hcv
  cases hp : d.passB
  · have HP : Hid (d.logB b = false ∧ d.logD b = d.put (rowB b) ∧ d.logL b L = L) := Lib.hid ⟨by simp [Dsk.logB, hp], by simp [Dsk.logD, hp], by simp [Dsk.logL, Dsk.logB, hp]⟩
    rw [show errB false = 9 from rfl]
    clear hp
    go_wp2
    go_ret
    exact ⟨by rw [HP.out.1]; rfl, by rw [HP.out.2.1, HP.out.2.2]; exact H2.out, HF2.out.mono (fun x hx _ => by simp at hx; simp [hx])⟩
  · have HP : Hid (d.logB b = (d.put (rowB b)).passB ∧ d.logD b = (d.put (rowB b)).sync) := Lib.hid ⟨by simp [Dsk.logB, hp], by simp [Dsk.logD, hp]⟩
    have HLL : Hid (d.logL b L = if (d.put (rowB b)).passB then L ++ [b] else L) := Lib.hid (by simp [Dsk.logL, Dsk.logB, hp])
    have HDP := Lib.hid (HD.out.put (rowB b) (by rw [← HRE.out, List.length_append, hbl]; have := HL1.out; have := HRL.out; omega))
    rw [show errB true = 0 from rfl]
    clear hp
    generalize d.put (rowB b) = d1 at *
    obtain ⟨_, A2, cA2, rs2, hbv2, _, _, _⟩ := H2.out
    have hcv := hbv2.cell 0
    simp at hcv
    clear hbv2
    go_wp2_with fail
    refine (rsync_any w2 (v :: U) g d1 H2.out.1 HDP.out.left).mono ?_
    rintro e w3 ⟨rfl, hd3, hf3⟩
    have H3 := Lib.hid (H2.out.disk hd3 hf3)
    have HF3 : Hid (Fr [g] w w3) := Lib.hid (HF2.out.trans hf3 (fun x hx _ => hx))
    clear hd3 hf3 hcv
    cases hq : d1.passB
    · rw [show errB false = 9 from rfl]
      have HQ : Hid (d.logL b L = L) := Lib.hid (by rw [HLL.out, hq]; rfl)
      rw [hq] at HP
      clear hq
      go_wp2
      go_ret
      exact ⟨by rw [HP.out.1]; rfl, by rw [HP.out.2, HQ.out]; exact H3.out, HF3.out.mono (fun x hx _ => by simp at hx; simp [hx])⟩
    · rw [show errB true = 0 from rfl]
      have HQ : Hid (d.logL b L = L ++ [b]) := Lib.hid (by rw [HLL.out, hq]; rfl)
      rw [hq] at HP
      clear hq
      obtain ⟨hrd3, A3, cA3, rs3, hbv3, hg3, hr3, hv3⟩ := H3.out
      have hcv1 := hbv3.cell 1
      simp at hcv1
      have HBV := Lib.hid hbv3
      have HG3 := Lib.hid hg3
      have HR3 := Lib.hid hr3
      have HRD3 := Lib.hid hrd3
      have HV3 := Lib.hid hv3
      have HY3 : Hid (By w3 B n b) := Lib.hid (HY.out.keep HF3.out (fun a ha hm => (HBg.out a.block (by simp [bk, ha])).1 (by simpa using hm)))
      clear hbv3 hg3 hr3 hrd3 hv3
      go_wp2_with (at_builtin; refine Stop.mk ?_)
      refine Stop.go ?_
      refine wpList_append_copyv _ rfl (.const (.slice none 0 0)) (.tmp 32) _ rfl 22 (.slice none 0 0) 24 Try.underlying33 info_row rfl rfl A3 L.length cA3 (rs3.map RowV.val) rfl (by rw [List.length_map]; exact HG3.out.1.1) (fun h => HG3.out.1.cells h) (by have := HL.out; omega) (by omega) ?_
      intro A4 c4 w4 ho4 hf4 hA4
      have HO4 := Lib.hid ho4
      have HF4 := Lib.hid hf4
      have HA4 := Lib.hid hA4
      clear ho4 hf4 hA4
      go_wp2_with (at_builtin; refine Stop.mk ?_)
      refine Stop.go ?_
      refine wpList_append_copyv _ rfl (.const (.slice none 0 0)) (.tmp 34) _ rfl 5 (.int .u8 0) 1 Try.underlying22 info_u8 rfl rfl B n c (b.map by8) rfl (by rw [List.length_map]; exact hbl) (fun h => (HY3.out.keep HF4.out (by simp)).2 h) (by omega) (by omega) ?_
      intro A5 c5 w5 ho5 hf5 hA5
      have HO5 := Lib.hid ho5
      have HF5 := Lib.hid hf5
      have HA5 := Lib.hid hA5
      have HO45 := Lib.hid (own_keep HO4.out hf5 (by simp))
      clear ho5 hf5 hA5
      go_wp2_with (at_builtin; refine Stop.mk ?_)
      refine Stop.go ?_
      refine wpList_append_vals _ rfl (.tmp 33) (.tmp 36) _ rfl 22 (.slice none 0 0) 24 Try.underlying33 info_row rfl (.slice A4 L.length c4) L.length _ rfl (HO45.out.alloc _) ⟨w5.heap.size, 0, none⟩ 1 (.slice A5 n c5) rfl ?_ rfl (by have := HL.out; omega) (by omega) ?_
      · exact (Blk.new w5 22 #[Value.slice A5 n c5]).cell 0
      intro A6 c6 w6 ho6 hg6 hat6
      have hf56 : Fr (bk A4) w5 w6 := (((Fr.refl [] w5).alloc _).mono (by simp)).grown hg6 (fun x hx _ => by rw [bk_mem] at hx; exact hx)
      have hf36 : Fr [] w3 w6 := (HF4.out.and HF5.out (by simp)).trans hf56 (fun x hx hl => by have := HA4.out x hx; omega)
      have h6n : ∀ x ∈ bk A6, w3.heap.size ≤ x := fun x hx => by
        have h1 := HF4.out.size
        have h2 := HF5.out.size
        rcases hat6 with e | e
        · rw [e, bk_own] at hx; exact HA4.out x hx
        · rw [e] at hx; simp at hx; omega
      have hb6 := HBV.out.keep hf36 (by simp)
      have hv3 : v < w3.heap.size := HBV.out.lt
      have hg3 : g < w3.heap.size := HRD3.out.lt
      have hc61 := hb6.cell 1
      have hz61 := hb6.frozen 1
      simp at hc61
      have hne6 : (Value.slice A6 (L.length + 1) c6).ownBlock ≠ some v := by
        intro e
        have h1 := h6n v (by rw [← bk_mem (A := A6) (n := L.length + 1) (c := c6)]; exact e)
        omega
      have hfs : Fr [v] w6 (w6.setCell ⟨v, 1, none⟩ (.slice A6 (L.length + 1) c6)) := (Fr.refl [v] w6).one (by simp) _ _
      have hf5e : Fr (bk A4) w5 w6 := hf56
      have hrl : RL (w6.setCell ⟨v, 1, none⟩ (.slice A6 (L.length + 1) c6)) U g v d1.sync (L ++ [b]) := by
        have hU3 : ∀ x ∈ v :: g :: U, x < w3.heap.size := fun x hx => by
          have h0 := HF3.out.size
          rcases List.mem_cons.1 hx with rfl | hx
          · exact hv3
          · rcases List.mem_cons.1 hx with rfl | hx
            · exact hg3
            · have := HU.out x hx; omega
        have h36 := hf36.size
        refine ⟨(HRD3.out.keep (U' := v :: U) hf36 (by simp) (fun _ hx _ => hx)).keep hfs (by simp) (fun _ hx _ => hx), A6, c6, rs3 ++ [⟨A5, n, c5, b⟩], ?_, ?_, by rw [List.map_append, HR3.out]; rfl, HV3.out⟩
        · have := hb6.set 1 (.slice A6 (L.length + 1) c6)
          simpa using this
        · rw [List.length_append]
          refine GL.own (c := c6) ?_ (fun r hr => ?_) (fun x hx hm => by have h1 := h6n x hx; have h2 := hU3 x hm; omega) (fun r hr x hx => ?_)
          · have := own_setCell ho6 ⟨v, 1, none⟩ hne6 (.slice A6 (L.length + 1) c6)
            simpa [RowV.val] using this
          · rcases List.mem_append.1 hr with hr | hr
            · have h1 := HG3.out.by_ r hr
              exact (h1.1.keep hf36 (by simp)).keep hfs (fun a ha hm => (h1.2 a.block (by simp [bk, ha])).1 (by simp at hm; simp [hm]))
            · simp at hr
              subst hr
              have h1 : By w5 A5 n b := By.of_own HO5.out
              refine (h1.keep hf5e (fun a ha hm => ?_)).keep hfs (fun a ha hm => ?_)
              · have h2 := HA5.out a.block (by simp [bk, ha])
                have h3 := own_lt HO4.out a.block (by rw [bk_mem]; exact hm)
                omega
              · have h2 := HA5.out a.block (by simp [bk, ha])
                have h3 := HF4.out.size
                simp at hm
                omega
          · rcases List.mem_append.1 hr with hr | hr
            · have h1 := (HG3.out.by_ r hr).2 x hx
              exact ⟨h1.1, Nat.lt_of_lt_of_le (by omega) hfs.size⟩
            · simp at hr
              subst hr
              have h2 := HA5.out x hx
              have h3 := HF4.out.size
              have h4 := own_lt HO5.out x (by rw [bk_mem]; exact hx)
              exact ⟨fun hm => by have := hU3 x hm; omega, Nat.lt_of_lt_of_le (by have := hf56.size; omega) hfs.size⟩
      have HRL := Lib.hid hrl
      have HFE : Hid (Fr [g, v] w (w6.setCell ⟨v, 1, none⟩ (.slice A6 (L.length + 1) c6))) := Lib.hid (((HF3.out.mono (T := [g, v]) (fun x hx _ => by simp at hx; simp [hx])).trans hf36 (by simp)).trans hfs (fun x hx _ => by simp at hx; simp [hx]))
      clear hrl hfs hf36 hf56 hf5e h6n hne6 ho6 hg6 hat6 hb6 hv3 hg3 hcv1
      go_wp2
      go_ret
      exact ⟨by rw [HP.out.1]; rfl, by rw [HP.out.2, HQ.out]; exact HRL.out, HFE.out⟩
end Go.Proofs.Ytdakilioikhhbaa
