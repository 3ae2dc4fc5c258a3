/- Package wal: Records; gavelkeep.Rows over lists that read alike. -/
import Derived.Test.YtdakilioikhhbaaWal2
import Derived.Test.YtdakilioikhhbaaRowv
import Derived.Test.YtdakilioikhhbaaRefS
import Derived.Laws.MakeOwn
namespace Go.Proofs.Ytdakilioikhhbaa
set_option maxRecDepth 100000
open Go.RowKit

/-- a list of rows, to be read -/
def Rl (w : World) (A : Option Addr) (n : Nat) (rs : List RowV) : Prop :=
  rs.length = n ∧ (0 < n → ∃ ad, A = some ad ∧ ∀ i r, rs[i]? = some r → By w r.A r.n r.b ∧ w.cell? (ad.add i) = some (.slice r.A r.n r.c))
/-- its blocks -/
def blks (A : Option Addr) (rs : List RowV) : List Nat := bk A ++ rs.flatMap fun r => bk r.A
theorem mem_blks {A : Option Addr} {rs : List RowV} {x : Nat} : x ∈ blks A rs ↔ x ∈ bk A ∨ ∃ r ∈ rs, x ∈ bk r.A := by
  unfold blks
  rw [List.mem_append, List.mem_flatMap]
theorem Rl.keep {w w' : World} {S : List Nat} {A : Option Addr} {n : Nat} {rs : List RowV} (h : Rl w A n rs) (hf : Fr S w w') (hS : ∀ x ∈ blks A rs, ¬ x ∈ S) : Rl w' A n rs := by
  refine ⟨h.1, fun hn => ?_⟩
  obtain ⟨ad, rfl, hc⟩ := h.2 hn
  refine ⟨ad, rfl, fun i r hr => ?_⟩
  obtain ⟨h1, h2⟩ := hc i r hr
  exact ⟨h1.keep hf (fun a ha => hS _ (mem_blks.2 (.inr ⟨r, List.mem_of_getElem? hr, by simp [bk, ha]⟩))), hf.cell h2 (by rw [add_block]; exact hS _ (mem_blks.2 (.inl (by simp [bk]))))⟩
theorem Rl.at {w : World} {A : Option Addr} {n k : Nat} {rs : List RowV} (h : Rl w A n rs) (hk : k < n) : ∃ ad r, A = some ad ∧ rs[k]? = some r ∧ By w r.A r.n r.b ∧ w.cell? (ad.add k) = some (.slice r.A r.n r.c) := by
  obtain ⟨ad, e, hc⟩ := h.2 (by omega)
  have hl : k < rs.length := by rw [h.1]; exact hk
  obtain ⟨h1, h2⟩ := hc k rs[k] (List.getElem?_eq_getElem hl)
  exact ⟨ad, rs[k], e, List.getElem?_eq_getElem hl, h1, h2⟩
theorem Rl.take {w : World} {A : Option Addr} {n k : Nat} {rs : List RowV} (h : Rl w A n rs) (hk : k ≤ n) : Rl w A k (rs.take k) := by
  refine ⟨by rw [List.length_take, h.1]; omega, fun hn => ?_⟩
  obtain ⟨ad, e, hc⟩ := h.2 (by omega)
  refine ⟨ad, e, fun i r hr => hc i r ?_⟩
  rw [List.getElem?_take] at hr
  split at hr
  · exact hr
  · cases hr
theorem Rl.nil (w : World) (A : Option Addr) : Rl w A 0 [] := ⟨rfl, fun h => absurd h (by omega)⟩
theorem Rl.blk {w : World} {g : Nat} {t : TypeId} {rs : List RowV} (h : Blk w g t (rs.map RowV.val).toArray) (hr : ∀ r ∈ rs, By w r.A r.n r.b) : Rl w (some ⟨g, 0, none⟩) rs.length rs := by
  refine ⟨rfl, fun _ => ⟨_, rfl, fun i r hi => ⟨hr r (List.mem_of_getElem? hi), ?_⟩⟩⟩
  have hadd : (⟨g, 0, none⟩ : Addr).add i = ⟨g, i, none⟩ := by unfold Addr.add; split <;> simp_all
  rw [hadd, h.cell i]
  simp [hi, RowV.val]
theorem Rl.own {w : World} {A : Option Addr} {n c : Nat} {rs : List RowV} (h : w.ownsRow 0 22 1 (.slice A n c) n (rs.map RowV.val)) (hr : ∀ r ∈ rs, By w r.A r.n r.b) : Rl w A n rs := by
  refine ⟨by have := h.1; simpa using this, fun hn => ?_⟩
  obtain ⟨g, cap, hv, _, hlt⟩ := h.form hn
  have hA : A = some ⟨g, 0, none⟩ := by injection hv
  subst hA
  refine ⟨_, rfl, fun i r hi => ⟨hr r (List.mem_of_getElem? hi), ?_⟩⟩
  exact h.cells (g := g) rfl i _ (by rw [List.getElem?_map, hi]; rfl)

set_option maxHeartbeats 1000000 in
theorem krows_yes (A B : Option Addr) (n m c d : Nat) (rs ss : List RowV) (w : World) (h1 : Rl w A n rs) (h2 : Rl w B m ss) (he : rs.map (·.b) = ss.map (·.b)) (hb : ∀ r ∈ rs, r.b.length ≤ 1073741824) (hn : n ≤ 1073741824) :
    Calls Try.prog 27 #[.slice A n c, .slice B m d] w fun e w' => e = .returned (.bool true) ∧ Fr [] w w' := by
  have hnm : m = n := by have := congrArg List.length he; simp only [List.length_map] at this; rw [← h1.1, ← h2.1, this]
  subst hnm
  have H1 := Lib.hid h1
  have H2 := Lib.hid h2
  have HE := Lib.hid he
  have HB := Lib.hid hb
  clear h1 h2 he hb
  have hne : ((m : Int) != (m : Int)) = false := by simp
  go_enter Try.func27, Try.ntmps27
  go_wp2
  go_loopw [5] (fun i wr => ∃ (k : Nat), k ≤ m ∧ i = .int .i64 k ∧ Fr [] w wr) (fun i _ => m - (intOf i).toNat)
  case atStart => exact ⟨0, by omega, rfl, Fr.refl _ _⟩
  case round =>
    obtain ⟨k, hk, rfl, hf⟩ := hrel
    have HF := Lib.hid hf
    clear hf
    by_cases hlt : k < m
    · obtain ⟨a1, r1, rfl, hg1, hy1, hc1⟩ := (H1.out.keep HF.out (by simp)).at hlt
      obtain ⟨a2, r2, rfl, hg2, hy2, hc2⟩ := (H2.out.keep HF.out (by simp)).at hlt
      have hbb : r1.b = r2.b := by
        have h1 : (rs.map (·.b))[k]? = some r1.b := by rw [List.getElem?_map, hg1]; rfl
        have h2 : (ss.map (·.b))[k]? = some r2.b := by rw [List.getElem?_map, hg2]; rfl
        rw [HE.out, h2] at h1
        injection h1 with h1
        exact h1.symm
      have hlen := HB.out r1 (List.mem_of_getElem? hg1)
      have HY1 := Lib.hid hy1
      have HY2 := Lib.hid hy2
      have HBB := Lib.hid hbb
      have HLEN := Lib.hid hlen
      have ha1 : (0 : Int) ≤ k := by omega
      clear hy1 hy2 hg1 hg2 hbb hlen
      go_upto_region 6 with (fail)
      refine wp_region_held_drew (S := Fr [] wr) (by kernel_rfl) (Fr.drew (Fr.refl _ wr)) (fun hHeld => ?_)
      refine run_at (i := 0) (v := ?_) rfl (by kernel_rfl) (by rfl) (fun _ _ _ h => h) hHeld (fun w1 hw1 => ?_) ?_
      rotate_left 1
      · skip
        go_simp
        (try (first | with_reducible rfl | (apply And.intro <;> rfl)))
      simp only [Act.put, List.setIfInBounds_toArray, List.set_cons_zero, List.set_cons_succ]
      refine run_at (i := 1) (v := ?_) rfl (by kernel_rfl) (by rfl) (fun _ _ _ h => h) hHeld (fun w1 hw1 => ?_) ?_
      rotate_left 1
      · skip
        go_simp
        (try (first | with_reducible rfl | (apply And.intro <;> rfl)))
      simp only [Act.put, List.setIfInBounds_toArray, List.set_cons_zero, List.set_cons_succ]
      refine run_at (i := 2) (v := ?_) rfl (by kernel_rfl) (by rfl) (fun _ _ _ h => h) hHeld (fun w1 hw1 => ?_) ?_
      rotate_left 1
      · skip
        go_simp
        (try (first | with_reducible rfl | (apply And.intro <;> rfl)))
      simp only [Act.put, List.setIfInBounds_toArray, List.set_cons_zero, List.set_cons_succ]
      refine run_at (i := 3) (v := ?_) rfl (by kernel_rfl) (by rfl) (fun _ _ _ h => h) hHeld (fun w1 hw1 => ?_) ?_
      rotate_left 1
      · skip
        have hcw0 := hw1.cell (hc1) (by first | (simp; done) | exact HNS.out | exact HNW.out | (intro hm; have hlt := HSB.out _ hm; (try dsimp only at hlt); omega))
        go_simp
        (try (first | with_reducible rfl | (apply And.intro <;> rfl)))
      simp only [Act.put, List.setIfInBounds_toArray, List.set_cons_zero, List.set_cons_succ]
      refine run_at (i := 4) (v := ?_) rfl (by kernel_rfl) (by rfl) (fun _ _ _ h => h) hHeld (fun w1 hw1 => ?_) ?_
      rotate_left 1
      · skip
        go_simp
        (try (first | with_reducible rfl | (apply And.intro <;> rfl)))
      simp only [Act.put, List.setIfInBounds_toArray, List.set_cons_zero, List.set_cons_succ]
      refine run_at (i := 5) (v := ?_) rfl (by kernel_rfl) (by rfl) (fun _ _ _ h => h) hHeld (fun w1 hw1 => ?_) ?_
      rotate_left 1
      · skip
        go_simp
        (try (first | with_reducible rfl | (apply And.intro <;> rfl)))
      simp only [Act.put, List.setIfInBounds_toArray, List.set_cons_zero, List.set_cons_succ]
      refine run_at (i := 6) (v := ?_) rfl (by kernel_rfl) (by rfl) (fun _ _ _ h => h) hHeld (fun w1 hw1 => ?_) ?_
      rotate_left 1
      · skip
        go_simp
        (try (first | with_reducible rfl | (apply And.intro <;> rfl)))
      simp only [Act.put, List.setIfInBounds_toArray, List.set_cons_zero, List.set_cons_succ]
      refine run_at (i := 7) (v := ?_) rfl (by kernel_rfl) (by rfl) (fun _ _ _ h => h) hHeld (fun w1 hw1 => ?_) ?_
      rotate_left 1
      · skip
        have hcw0 := hw1.cell (hc2) (by first | (simp; done) | exact HNS.out | exact HNW.out | (intro hm; have hlt := HSB.out _ hm; (try dsimp only at hlt); omega))
        go_simp
        (try (first | with_reducible rfl | (apply And.intro <;> rfl)))
      simp only [Act.put, List.setIfInBounds_toArray, List.set_cons_zero, List.set_cons_succ]
      refine call_at (i := 8) (f := ?_) (args := ?_) rfl (by kernel_rfl) (by rfl) ?_ ?_
      rotate_left 2
      · go_simp
        (try (first | with_reducible rfl | (apply And.intro <;> rfl)))
      refine (same_any r1.A r2.A r1.n r2.n r1.c r2.c r1.b r2.b _ (HY1.out.keep hHeld (by simp)) (HY2.out.keep hHeld (by simp)) (by rw [← HY1.out.1]; exact HLEN.out)).mono ?_
      rw [decide_eq_true HBB.out]
      rintro e_ w3 ⟨rfl, k3, hk3⟩
      refine ⟨_, rfl, by rw [hk3]; exact hHeld.drewN k3, fun hHeld => ?_⟩
      simp only [Act.put, List.setIfInBounds_toArray, List.set_cons_zero, List.set_cons_succ]
      clear hk3
      refine run_at (i := 9) (v := ?_) rfl (by kernel_rfl) (by rfl) (fun _ _ _ h => h) hHeld (fun w1 hw1 => ?_) ?_
      rotate_left 1
      · skip
        go_simp
        (try (first | with_reducible rfl | (apply And.intro <;> rfl)))
      simp only [Act.put, List.setIfInBounds_toArray, List.set_cons_zero, List.set_cons_succ]
      refine wpAnyH_done (by kernel_rfl) ?_ _
      have HW3 := Lib.hid (HF.out.and hHeld (by simp))
      clear hHeld hc1 hc2
      go_wp2
      go_roundw
      case rel => exact ⟨k + 1, by omega, by go_num, HW3.out⟩
      case measure => simp [intOf]; omega
    · go_wp2
      go_ret
      exact ⟨rfl, HF.out⟩

theorem zeroCells_row (k : Nat) : madeCells (Value.slice none 0 0).cells k = (List.replicate k (Value.slice none 0 0)).toArray := by
  show madeCells #[.slice none 0 0] k = _
  apply Array.ext'
  rw [toList_madeCells_one]
theorem make_rows (n : Nat) (hn : n ≤ 1073741824) (w : World) : ∃ wa, (Instr.makeSlice 33 (.int .i64 n) (.int .i64 n)).run Try.prog w = .ok (.slice (some ⟨w.heap.size, 0, none⟩) n n) wa ∧
    Blk wa w.heap.size 22 (List.replicate n (Value.slice none 0 0)).toArray ∧ Fr [] w wa := by
  obtain ⟨i, hi0, hz0, hz1, hz2⟩ := info_parts info_row
  have h := run_make (P := Try.prog) w 33 22 i _ Try.underlying33 hi0 hz0 .i64 .i64 n n (by omega) (by omega) (by rw [hz2]; omega) (by omega)
  rw [hz1, Nat.mul_one, zeroCells_row, Int.toNat_natCast] at h
  exact ⟨_, h, Blk.new _ _ _, (Fr.refl [] w).alloc _⟩

/-- what Records tells -/
def RecPost (w : World) (L : List (List UInt8)) (e : Ending) (w' : World) : Prop :=
  ∃ (g : Nat) (rs : List RowV), e = .returned (.slice (some ⟨g, 0, none⟩) L.length L.length) ∧ Blk w' g 22 (rs.map RowV.val).toArray ∧ rs.map (·.b) = L ∧ (∀ r ∈ rs, By w' r.A r.n r.b ∧ ∀ x ∈ bk r.A, w.heap.size ≤ x ∧ x < w'.heap.size) ∧ w.heap.size ≤ g ∧ Fr [] w w'
set_option maxHeartbeats 2000000 in
theorem wrecords_any (w : World) (T : List Nat) (g gd : Nat) (d : Dsk) (L : List (List UInt8)) (h : Log w T g gd d L) (hl : (rowsB L).length ≤ 1000000000) :
    Calls Try.prog 14 #[.pointer (some ⟨g, 0, none⟩)] w (RecPost w L) := by
  obtain ⟨SD, S, rfl, hd, ⟨hsh, A, c, rfl, hb, ho⟩, hx⟩ := h
  have hc1 := hb.cell 1
  have hc2 := hb.cell 2
  simp at hc1 hc2
  have HSH := Lib.hid hsh
  have HY := Lib.hid (By.of_own ho)
  have HL := Lib.hid hl
  have HCN : Hid (L.length ≤ 1000000000) := Lib.hid (by have := rowsB_count L; omega)
  have HBK := Lib.hid hb
  clear hd hsh hb ho hx hl
  go_enter Try.func14, Try.ntmps14
  go_wp2_with fail
  refine (newReader_any A _ c (rowsB L) w HY.out (by have := HL.out; omega)).mono ?_
  rintro e w1 ⟨g1, F, rfl, hr1, hf1, hg1, hF1⟩
  have HR1 := Lib.hid hr1
  have HF1 := Lib.hid hf1
  have hc2b := hf1.cell hc2 (by simp)
  obtain ⟨wa, hmk, hba, hfa⟩ := make_rows L.length (by have := HCN.out; omega) w1
  have HBA := Lib.hid hba
  have HFA := Lib.hid hfa
  have HRA := Lib.hid (HR1.out.keep hfa (by simp) (by simp))
  have HFF := Lib.hid hF1
  have HG : Hid (w.heap.size ≤ w1.heap.size ∧ w1.heap.size < wa.heap.size) := Lib.hid ⟨HF1.out.size, hba.lt⟩
  have HFW : Hid (Fr [] w wa) := Lib.hid (HF1.out.and hfa (by simp))
  have HGG : Hid (g1 < w1.heap.size ∧ w.heap.size ≤ g1) := Lib.hid ⟨hr1.lt, hg1⟩
  clear hr1 hf1 hba hfa hc1 hc2 hg1 hF1
  generalize w1.heap.size = gl at *
  have hn0 : (L.length : Int) ≤ 1000000000 := by have := HCN.out; omega
  go_wp2
  go_loopw [18] (fun i wr => ∃ (k : Nat) (rs : List RowV), k ≤ L.length ∧ i = .int .i64 k ∧ rs.map (·.b) = L.take k ∧ Blk wr gl 22 (rs.map RowV.val ++ List.replicate (L.length - k) (Value.slice none 0 0)).toArray ∧
    (∀ r ∈ rs, By wr r.A r.n r.b ∧ ∀ x ∈ bk r.A, wa.heap.size ≤ x ∧ x < wr.heap.size) ∧ Rd wr g1 F (rowsB (L.drop k)) false ∧ Fr [] w wr ∧ wa.heap.size ≤ wr.heap.size) (fun i _ => L.length - (intOf i).toNat)
  case atStart => exact ⟨0, [], by omega, rfl, by simp, by simpa using HBA.out, by simp, by simpa using HRA.out, HFW.out, Nat.le_refl _⟩
  case round =>
    obtain ⟨k, rs, hk, rfl, hrs, hbl, hrr, hrb, hf, hsz⟩ := hrel
    have HRS := Lib.hid hrs
    have HBL := Lib.hid hbl
    have HRR := Lib.hid hrr
    have HRB := Lib.hid hrb
    have HF := Lib.hid hf
    have HSZ := Lib.hid hsz
    clear hrs hbl hrr hrb hf hsz hmk HBA HRA HR1 hc2b
    by_cases hlt : k < L.length
    · have hrl : rs.length = k := by
        have := congrArg List.length HRS.out
        simp only [List.length_map, List.length_take] at this
        omega
      have hsh : L[k].length ≤ 65536 := HSH.out _ (List.getElem_mem hlt)
      have htk : L.take (k + 1) = L.take k ++ [L[k]] := by rw [List.take_add_one, List.getElem?_eq_getElem hlt, Option.toList_some]
      rw [rowsB_at hlt] at HRB
      obtain ⟨k1, k2, k3⟩ := rw_row hsh (rowsB (L.drop (k + 1)))
      have HG3 := Lib.hid (And.intro k1 (And.intro k2 (k3 false)))
      have HLEN : Hid ((rowB L[k] ++ rowsB (L.drop (k + 1))).length ≤ 1000000000) := Lib.hid (by
        have h1 := congrArg List.length (rowsB_split L k)
        rw [rowsB_at hlt, List.length_append] at h1
        have := HL.out
        omega)
      have HTK := Lib.hid htk
      have HRL := Lib.hid hrl
      have HSHK := Lib.hid hsh
      clear hsh htk k1 k2 k3 hrl
      generalize L[k] = b at *
      generalize rowB b ++ rowsB (L.drop (k + 1)) = R1 at *
      have ha0 : (0 : Int) ≤ k := by omega
      go_wp2_with fail
      refine (rrow_f 65536 (by omega) HRB.out (by have := HLEN.out; omega)).mono ?_
      rw [HG3.out.1, HG3.out.2.1, HG3.out.2.2]
      rintro e w3 ⟨A3, c3, s3, rfl, hfb3, hnw3, _, hr3, hf3⟩
      have hy3 := hfb3.by
      have hn3 : ∀ x ∈ bk A3, wr.heap.size ≤ x ∧ x < w3.heap.size := fun x hx => ⟨hnw3 x hx, hfb3.lt x hx⟩
      clear hfb3 hnw3
      have hb3 := HBL.out.keep hf3 (by simp; have := HGG.out.1; omega)
      have hcell := hb3.cell k
      have hfz := hb3.frozen k
      rw [show ((rs.map RowV.val ++ List.replicate (L.length - k) (Value.slice none 0 0)).toArray)[k]? = some (.slice none 0 0) by
        rw [List.getElem?_toArray, List.getElem?_append_right (by simp [HRL.out]), List.length_map, HRL.out, Nat.sub_self, List.getElem?_replicate, if_pos (by omega)]] at hcell
      have hb4 := hb3.set k (.slice A3 b.length c3)
      rw [show ((rs.map RowV.val ++ List.replicate (L.length - k) (Value.slice none 0 0)).toArray).setIfInBounds k (.slice A3 b.length c3) = ((rs ++ [(⟨A3, b.length, c3, b⟩ : RowV)]).map RowV.val ++ List.replicate (L.length - (k + 1)) (Value.slice none 0 0)).toArray by
        rw [List.setIfInBounds_toArray, List.set_append, if_neg (by simp [HRL.out]), List.length_map, HRL.out, Nat.sub_self, show L.length - k = (L.length - (k + 1)) + 1 by omega, List.replicate_succ, List.set_cons_zero]
        simp [RowV.val]] at hb4
      have HB4 := Lib.hid hb4
      have HF4 : Hid (Fr [] w (w3.setCell ⟨gl, k, none⟩ (.slice A3 b.length c3))) := Lib.hid ((HF.out.trans hf3 (by intro x hx hl; simp at hx; have := HGG.out; omega)).setCell _ (by intro h; have := HG.out; simp at h; omega) _)
      have HR4 : Hid (Rd (w3.setCell ⟨gl, k, none⟩ (.slice A3 b.length c3)) g1 F (rowsB (L.drop (k + 1))) false) := Lib.hid (hr3.keep ((Fr.refl [gl] w3).setCell _ (fun _ => by simp) _) (by have := HGG.out.1; simp; omega) (fun x hx hm => by have := (HFF.out x hx).2; simp at hm; omega))
      have HRR4 : Hid (∀ r ∈ rs ++ [(⟨A3, b.length, c3, b⟩ : RowV)], By (w3.setCell ⟨gl, k, none⟩ (.slice A3 b.length c3)) r.A r.n r.b ∧ ∀ x ∈ bk r.A, wa.heap.size ≤ x ∧ x < (w3.setCell ⟨gl, k, none⟩ (.slice A3 b.length c3)).heap.size) := Lib.hid (by
        have hfs : Fr [gl] w3 (w3.setCell ⟨gl, k, none⟩ (.slice A3 b.length c3)) := (Fr.refl [gl] w3).setCell _ (fun _ => by simp) _
        have h1 := HG.out
        have h2 := HGG.out
        have h3 := HSZ.out
        have h4 := hf3.size
        intro r hr
        rcases List.mem_append.1 hr with hr | hr
        · obtain ⟨q1, q2⟩ := HRR.out r hr
          refine ⟨(q1.keep hf3 (fun a ha hm => ?_)).keep hfs (fun a ha hm => ?_), fun x hx => ⟨(q2 x hx).1, ?_⟩⟩
          · have := (q2 a.block (by simp [bk, ha])).1; simp at hm; omega
          · have := (q2 a.block (by simp [bk, ha])).1; simp at hm; omega
          · have := (q2 x hx).2
            have := hfs.size
            omega
        · simp at hr
          subst hr
          refine ⟨hy3.keep hfs (fun a ha hm => ?_), fun x hx => ⟨?_, ?_⟩⟩
          · have := (hn3 a.block (by simp [bk, ha])).1; simp at hm; omega
          · have := (hn3 x hx).1; omega
          · have := (hn3 x hx).2
            have := hfs.size
            omega)
      have HSZ4 : Hid (wa.heap.size ≤ (w3.setCell ⟨gl, k, none⟩ (.slice A3 b.length c3)).heap.size) := Lib.hid (by
        have h3 := HSZ.out
        have h4 := hf3.size
        have h5 := ((Fr.refl [gl] w3).setCell ⟨gl, k, none⟩ (fun _ => by simp) (.slice A3 b.length c3)).size
        omega)
      clear hb3 hb4 hy3 hn3 hr3 hf3
      go_wp2
      go_roundw
      case rel => exact ⟨k + 1, rs ++ [⟨A3, b.length, c3, b⟩], by omega, by go_num, by rw [HTK.out, List.map_append, HRS.out]; rfl, HB4.out, HRR4.out, HR4.out, HF4.out, HSZ4.out⟩
      case measure => simp [intOf]; omega
    · have hkl : k = L.length := by omega
      subst hkl
      go_wp2
      go_ret
      have h1 := HBL.out
      have h2 := HRS.out
      rw [Nat.sub_self, List.replicate_zero, List.append_nil] at h1
      rw [List.take_length] at h2
      have h3 := HG.out
      exact ⟨gl, rs, rfl, h1, h2, fun r hr => ⟨(HRR.out r hr).1, fun x hx => ⟨by have := ((HRR.out r hr).2 x hx).1; omega, ((HRR.out r hr).2 x hx).2⟩⟩, h3.1, HF.out⟩
end Go.Proofs.Ytdakilioikhhbaa
