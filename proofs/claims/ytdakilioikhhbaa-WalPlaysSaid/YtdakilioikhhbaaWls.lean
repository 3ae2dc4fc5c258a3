/- WalSplits: the walk. (written by gen_wls.py) -/
import Derived.Test.YtdakilioikhhbaaWlc
import Derived.Deep.DeepCutAuto
import Derived.Deep.CutBlock
namespace Go.Proofs.Ytdakilioikhhbaa
set_option maxRecDepth 100000
open Go.RowKit
open Go.ChangeShapes Go.WideShapes
open Go.Deep (open_slice open_slice1)

/-- a list of bools that comes in -/
def BoolsIn (w : World) (A : Option Addr) (n : Nat) (l : List Bool) : Prop :=
  l.length = n ∧ (0 < n → ∃ ad, A = some ad ∧ ∀ (i : Nat) (b : Bool), l[i]? = some b → w.cell? (ad.add i) = some (.bool b))
theorem BoolsIn.at {w w' : World} {A : Option Addr} {n i : Nat} {l : List Bool} (h : BoolsIn w A n l) (hb : Fr [] w w') (hi : i < n) :
    ∃ ad b, A = some ad ∧ l[i]? = some b ∧ w'.cell? (ad.add i) = some (.bool b) := by
  obtain ⟨ad, e, hc⟩ := h.2 (by omega)
  have hl : i < l.length := by rw [h.1]; exact hi
  exact ⟨ad, l[i], e, List.getElem?_eq_getElem hl, hb.cell (hc i l[i] (List.getElem?_eq_getElem hl)) (by simp)⟩
section
variable {H : Type} {enc : TypeId × Value → H} {w : World} {spare : Nat → Bool} {held : Bool}
theorem bools_of_trod {fuel : Nat} {A : Option Addr} {len cap : Nat} {x : DataW H × List MemPlace} (h : DataW.trod enc Try.prog w 0 spare held fuel 57 [.slice A len cap] = some x) :
    ∃ l, BoolsIn w A len l ∧ len ≤ cap ∧ cap ≤ maxLen := by
  rcases open_slice Try.underlying57 h with ⟨hcs, _⟩ | ⟨a, len', cap', m, n, D, Pl, hcs, _, hl, hm, hmm, _, hi⟩
  · simp at hcs
    obtain ⟨rfl, rfl, rfl⟩ := hcs
    exact ⟨[], ⟨rfl, fun h => absurd h (by omega)⟩, Nat.le_refl _, Nat.zero_le _⟩
  · simp at hcs
    obtain ⟨rfl, rfl, rfl⟩ := hcs
    have hlm : len ≤ m := by rw [hmm]; split <;> omega
    have hv : ∀ i, i < len → ∃ b : Bool, w.cell? (a.add i) = some (.bool b) := by
      intro i hil
      obtain ⟨cs', hc, ht⟩ := hi i (by omega)
      rw [show Try.prog.cellsOf 4 = 1 by kernel_rfl, Nat.mul_one] at hc
      obtain ⟨b, rfl, _⟩ := DataW.trod_bool Try.underlying4 ht
      obtain ⟨_, hcl, hat⟩ := World.cells?_some hc
      refine ⟨b, ?_⟩
      have := hat 0 (by omega)
      simpa [Addr.add] using this
    refine ⟨(List.range len).map (fun i => if hi : i < len then Classical.choose (hv i hi) else false), ⟨by simp, fun _ => ⟨a, rfl, fun i v hiv => ?_⟩⟩, hl, hm⟩
    simp only [List.getElem?_map, Option.map_eq_some_iff] at hiv
    obtain ⟨k, hk, rfl⟩ := hiv
    obtain ⟨hk1, hk2⟩ := List.getElem?_eq_some_iff.1 hk
    simp at hk1 hk2
    subst hk2
    rw [dif_pos hk1]
    exact Classical.choose_spec (hv i hk1)
end
/-- a log shares no block with a row of rows -/
theorem dok_apart {w : World} {S : List Nat} {g n c : Nat} {d : Dsk} {A : Option Addr} {xs : List Value} (h : Dok w S g d) (ho : w.ownsRow 0 22 1 (.slice A n c) n xs) : ∀ x ∈ bk A, ¬ x ∈ S := by
  obtain ⟨A', c', rfl, hb, hr⟩ := h
  intro x hx hm
  simp at hm
  rcases hm with rfl | hm
  · exact own_ne ho hb (by decide) (by rw [bk_mem]; exact hx)
  · exact rows_apart ho hr x hx hm
theorem wok_apart {w : World} {S : List Nat} {g gd n c : Nat} {L : List (List UInt8)} {A : Option Addr} {xs : List Value} (h : Wok w S g gd L) (ho : w.ownsRow 0 22 1 (.slice A n c) n xs) : ∀ x ∈ bk A, ¬ x ∈ S := by
  obtain ⟨_, A', c', rfl, hb, hr⟩ := h
  intro x hx hm
  simp at hm
  rcases hm with rfl | hm
  · exact own_ne ho hb (by decide) (by rw [bk_mem]; exact hx)
  · exact rows_apart ho hr x hx hm
theorem log_apart {w : World} {T : List Nat} {g gd n c : Nat} {d : Dsk} {L : List (List UInt8)} {A : Option Addr} {xs : List Value} (h : Log w T g gd d L) (ho : w.ownsRow 0 22 1 (.slice A n c) n xs) : ∀ x ∈ bk A, ¬ x ∈ T := by
  obtain ⟨SD, S, rfl, hd, hw, _⟩ := h
  intro x hx hm
  rcases List.mem_append.1 hm with hm | hm
  · exact dok_apart hd ho x hx hm
  · exact wok_apart hw ho x hx hm
theorem rowsB_len60 : ∀ (l : List (List UInt8)), (∀ b ∈ l, b.length ≤ 60) → (rowsB l).length ≤ 70 * l.length
  | [], _ => by simp [rowsB]
  | b :: l, h => by
    have h1 := rowsB_len60 l (fun x hx => h x (by simp [hx]))
    have h2 := rowB_len b (by have := h b (by simp); omega)
    have h3 := h b (by simp)
    rw [rowsB_cons, List.length_append, List.length_cons]
    omega

set_option maxHeartbeats 20000000 in
theorem walSplits_walk (w : World) (A : Option Addr) (n c : Nat) (l : List RowV) (hl : RowsIn w A n l) (hc : n ≤ c) (hx : c ≤ maxLen) (B : Option Addr) (m d : Nat) (lb : List Bool) (hB : BoolsIn w B m lb) (hm : m ≤ d) (hd : d ≤ maxLen) :
    Calls Try.prog 7 #[.slice A n c, .slice B m d] w fun e w' => e = .returned (.bool true) ∧ Fr [] w w' := by
  unfold maxLen at hx hd
  have hnm : n ≤ 9223372036854775807 := by omega
  have hmm : m ≤ 9223372036854775807 := by omega
  have HL := Lib.hid hl
  have HBI := Lib.hid hB
  clear hl hB hx hc hm hd
  go_enter Try.func7, Try.ntmps7
  go_wp2_with fail
  refine (dnew_any w).mono ?_
  rintro e w1 ⟨rfl, hd1, hf1⟩
  have HD1 : Hid (Dok w1 [w.heap.size] w.heap.size (cl [])) := Lib.hid hd1
  have HF1 := Lib.hid hf1
  clear hd1 hf1
  generalize hg : w.heap.size = gd at *
  have HG := Lib.hid hg
  clear hg
  go_wp2_with fail
  refine (cl_open w1 [gd] gd [] HD1.out (by intro b hb; simp at hb) (by simp [rowsB])).mono ?_
  rintro e w2 ⟨g0, S, rfl, hl2, hf2, hs2⟩
  have HL2 := Lib.hid hl2
  have HF2 : Hid (Fr [] w w2) := Lib.hid (HF1.out.trans hf2 (by intro x hx hl; simp at hx; have := HG.out; omega))
  have HT2 : Hid (∀ x ∈ [gd] ++ S, w.heap.size ≤ x) := Lib.hid (fun x hx => by
    rcases List.mem_append.1 hx with hx | hx
    · simp at hx; have := HG.out; omega
    · have := hs2 x hx; have := HF1.out.size; omega)
  clear hl2 hf2 hs2
  generalize [gd] ++ S = T0 at *
  go_wp2_with fail
  go_loopw [6, 8, 9] (fun s6 s8 i wr => ∃ (k : Nat) (T : List Nat) (g : Nat) (A8 : Option Addr) (c8 : Nat) (rs : List RowV), k ≤ n ∧ k ≤ 10 ∧ i = .int .i64 k ∧ s6 = .pointer (some ⟨g, 0, none⟩) ∧ s8 = .slice A8 k c8 ∧
    Log wr T g gd (cl (rs.map (·.b))) (rs.map (·.b)) ∧ (∀ x ∈ T, w.heap.size ≤ x) ∧ wr.ownsRow 0 22 1 (.slice A8 k c8) k (rs.map RowV.val) ∧ (∀ x ∈ bk A8, w.heap.size ≤ x) ∧ RowsOk wr T rs ∧ (∀ r ∈ rs, r.n = r.b.length ∧ r.b.length ≤ 60) ∧ Fr [] w wr) (fun _ _ i _ => 10 - (intOf i).toNat)
  case atStart => exact ⟨0, T0, g0, none, 0, [], by omega, by omega, rfl, rfl, rfl, HL2.out, HT2.out, ⟨rfl, .inl ⟨rfl, rfl⟩⟩, by simp [bk], by intro r hr; simp at hr, by simp, HF2.out⟩
  case round =>
    obtain ⟨k, T, g, A8, c8, rs, hk, hk10, rfl, rfl, rfl, hlog, hT, ho8, hbk8, hok, hrn, hf⟩ := hrel
    have HLOG := Lib.hid hlog
    have HT := Lib.hid hT
    have HO8 := Lib.hid ho8
    have HBK8 := Lib.hid hbk8
    have HOK := Lib.hid hok
    have HRN := Lib.hid hrn
    have HF := Lib.hid hf
    clear hlog hT ho8 hbk8 hok hrn hf HL2 HD1 HF1 HF2 HT2
    by_cases hlt : k < n ∧ k < 10
    · obtain ⟨hkn, hk2⟩ := hlt
      obtain ⟨ad, r, rfl, hg, hy, hrc, hrm, hcell⟩ := HL.out.at HF.out.below_all hkn
      have HY := Lib.hid hy
      have HRC := Lib.hid (And.intro hrc hrm)
      have hk0 : (0 : Int) ≤ k := by omega
      clear hg hy hrc hrm
      go_wp2_with fail
      rw [show (60 : Int) = ((60 : Nat) : Int) from rfl]
      refine (cut_any r.A r.n r.c 60 r.b wr HY.out (Nat.le_trans HRC.out.1 HRC.out.2) HRC.out.1 (by omega)).mono ?_
      rintro e w3 ⟨A3, c3, rfl, hN3⟩
      have h60 : (r.b.take 60).length ≤ 60 := List.length_take_le _ _
      generalize r.b.take 60 = b at *
      have H60 := Lib.hid h60
      have HN3 := Lib.hid hN3
      have HLOG3 := Lib.hid (HLOG.out.keep hN3.2.1 (by simp))
      have HO3 := Lib.hid (own_keep HO8.out hN3.2.1 (by simp))
      have HOK3 := Lib.hid (HOK.out.keep (S' := T) hN3.2.1 (by simp) (fun x hx _ => hx))
      have HF3 := Lib.hid (HF.out.and hN3.2.1 (by simp))
      have HA3T : Hid (∀ x ∈ bk A3, ¬ x ∈ T) := Lib.hid (fun x hx hm => by have h1 := hN3.2.2 x hx; have h2 := HLOG.out.lt x hm; omega)
      have HLB : Hid ((rowsB (rs.map (·.b))).length ≤ 700) := Lib.hid (by
        have h1 := rowsB_len60 (rs.map (·.b)) (fun b hb => by obtain ⟨r, hr, rfl⟩ := List.mem_map.1 hb; exact (HRN.out r hr).2)
        have h2 := HO8.out.1
        simp only [List.length_map] at h1 h2
        omega)
      clear hN3 h60
      go_wp2_with fail
      refine (cl_put w3 T g gd (rs.map (·.b)) HLOG3.out A3 _ c3 b HN3.out.by (fun x hx => ⟨HA3T.out x hx, HN3.out.lt x hx⟩) (by have := H60.out; omega) (by have := HLB.out; omega)).mono ?_
      rintro e w4 ⟨rfl, T4, hl4, hf4, ht4⟩
      have HLOG4 := Lib.hid hl4
      have HT4 : Hid (∀ x ∈ T4, w.heap.size ≤ x) := Lib.hid (fun x hx => by
        by_cases h : x < w3.heap.size
        · exact HT.out x (ht4 x hx h)
        · have := HF3.out.size; omega)
      have hap3 := log_apart HLOG3.out HO3.out
      have HO4 := Lib.hid (own_keep HO3.out hf4 (fun x hx hm => hap3 x (by rw [bk_mem] at hx; exact hx) hm))
      have hok4 : RowsOk w3 T (rs ++ [⟨A3, b.length, c3, b⟩]) := by
        intro r hr
        rcases List.mem_append.1 hr with h | h
        · exact HOK3.out r h
        · simp at h; subst h; exact ⟨HN3.out.1, HA3T.out⟩
      have HOK4 := Lib.hid (hok4.keep (S' := T4) hf4 (fun r hr x hx hm => (hok4 r hr).2 x hx hm) ht4)
      have HF4 := Lib.hid (HF3.out.trans hf4 (fun x hx hl => by have := HT.out x hx; omega))
      clear hl4 hf4 ht4 hap3 hok4 hcell
      go_wp2_with (at_builtin; refine Stop.mk ?_)
      refine Stop.go ?_
      refine wpList_append_vals _ rfl (.tmp 45) (.tmp 47) _ rfl 22 (.slice none 0 0) 24 Try.underlying33 info_row rfl (.slice A8 k c8) k _ rfl (HO4.out.alloc _) ⟨w4.heap.size, 0, none⟩ 1
        (.slice A3 b.length c3) rfl ?_ rfl (by omega) (by omega) ?_
      · exact (Blk.new w4 22 #[Value.slice A3 b.length c3]).cell 0
      intro A5 c5 w5 ho5 hg5 hat5
      have hf45 : Fr (bk A8) w4 w5 := (((Fr.refl [] w4).alloc _).mono (by simp)).grown hg5 (fun x hx _ => by rw [bk_mem] at hx; exact hx)
      have hap4 := log_apart HLOG4.out HO4.out
      have HLOG5 : Hid (Log w5 T4 g gd (cl ((rs ++ [(⟨A3, b.length, c3, b⟩ : RowV)]).map (·.b))) ((rs ++ [(⟨A3, b.length, c3, b⟩ : RowV)]).map (·.b))) := Lib.hid (by
        have := HLOG4.out.keep hf45 (fun x hx hm => hap4 x hm hx)
        simpa using this)
      have HOK5 := Lib.hid (HOK4.out.keep (S' := T4) hf45 (fun r hr x hx hm => rows_apart HO4.out (HOK4.out r hr).1 x hm hx) (fun x hx _ => hx))
      have HF5 := Lib.hid (HF4.out.trans hf45 (fun x hx hl => by have := HBK8.out x hx; omega))
      have HBK5 : Hid (∀ x ∈ bk A5, w.heap.size ≤ x) := Lib.hid (by
        intro x hx
        have := HF4.out.size
        rcases hat5 with e | e
        · rw [e, bk_own] at hx; exact HBK8.out x hx
        · rw [e] at hx; simp at hx; omega)
      have HO5 : Hid (w5.ownsRow 0 22 1 (.slice A5 (k + 1) c5) (k + 1) ((rs ++ [(⟨A3, b.length, c3, b⟩ : RowV)]).map RowV.val)) := Lib.hid (by simpa [RowV.val] using ho5)
      have HRN5 : Hid (∀ r ∈ rs ++ [(⟨A3, b.length, c3, b⟩ : RowV)], r.n = r.b.length ∧ r.b.length ≤ 60) := Lib.hid (by
        intro r hr
        rcases List.mem_append.1 hr with h | h
        · exact HRN.out r h
        · simp at h; subst h; exact ⟨rfl, H60.out⟩)
      have HLL : Hid ((rs ++ [(⟨A3, b.length, c3, b⟩ : RowV)]).length = k + 1) := Lib.hid (by have := HO5.out.1; simpa using this)
      clear ho5 hg5 hat5 hf45 hap4 HO4 HLOG4 HOK4 HLOG HO8 HOK HLOG3 HO3 HOK3 HBK8 HN3 HA3T HRN HT HF4 HF3 HF
      generalize rs ++ [(⟨A3, b.length, c3, b⟩ : RowV)] = rs5 at *
      have HLB5 : Hid ((rowsB (rs5.map (·.b))).length ≤ 1000) := Lib.hid (by
        have h1 := rowsB_len60 (rs5.map (·.b)) (fun b hb => by obtain ⟨r, hr, rfl⟩ := List.mem_map.1 hb; exact (HRN5.out r hr).2)
        have h2 := HLL.out
        simp only [List.length_map] at h1
        omega)
      have HLM : Hid ((rs5.map (·.b)).length = k + 1) := Lib.hid (by rw [List.length_map]; exact HLL.out)
      by_cases hop : ∃ ad2 : Addr, B = some ad2 ∧ k < m ∧ w5.cell? (ad2.add k) = some (.bool true)
      · obtain ⟨ad2, rfl, hkm, hcb⟩ := hop
        have hkm : (k : Int) < m := by omega
        obtain ⟨SD, SW, hTE, hdk⟩ := HLOG5.out.dok
        have HTE := Lib.hid hTE
        have HDK := Lib.hid hdk
        have HGD := Lib.hid hdk.mem
        have HDO : Hid (DOk (cl (rs5.map (·.b)))) := Lib.hid (cl_ok (by have := HLB5.out; omega))
        clear hTE hdk
        go_wp2_with fail
        refine (dread_any w5 SD gd _ HDK.out HDO.out).mono ?_
        rintro e w6 ⟨A6, c6, rfl, hN6⟩
        have HN6 := Lib.hid hN6
        have HDK6 := Lib.hid (HDK.out.keep hN6.2.1 (by simp))
        clear hN6 hcb
        go_wp2_with fail
        refine (cl_open w6 SD gd (rs5.map (·.b)) HDK6.out HLOG5.out.short (by have := HLB5.out; omega)).mono ?_
        rintro e w7 ⟨g7, S7, rfl, hl7, hf7, hs7⟩
        obtain ⟨SD7, SW7, hTE7, hdk7⟩ := hl7.dok
        have HLOG7 := Lib.hid hl7
        have HDK7 := Lib.hid hdk7
        have HF57 : Hid (Fr [gd] w5 w7) := Lib.hid ((HN6.out.2.1.mono (T := [gd]) (by simp)).trans hf7 (fun x hx _ => hx))
        have HT7 : Hid (∀ x ∈ SD ++ S7, x < w5.heap.size → x ∈ T4) := Lib.hid (fun x hx hl => by
          rcases List.mem_append.1 hx with hx | hx
          · rw [HTE.out]; simp [hx]
          · have := hs7 x hx; have := HN6.out.2.1.size; omega)
        have HY7 := Lib.hid (HN6.out.by.keep hf7 (fun a ha hm => by
          have h1 := HN6.out.2.2 a.block (by simp [bk, ha])
          have h2 := HDK.out.lt gd HGD.out
          simp at hm
          omega))
        have HGT : Hid (gd ∈ T4) := Lib.hid (by rw [HTE.out]; simp [HGD.out])
        clear hl7 hf7 hs7 hTE7 hdk7 HDK6
        generalize SD ++ S7 = T7 at *
        go_wp2_with fail
        refine (dread_any w7 SD7 gd _ HDK7.out HDO.out).mono ?_
        rintro e w8 ⟨A8', c8', rfl, hN8⟩
        have HN8 := Lib.hid hN8
        have HLOG8 := Lib.hid (HLOG7.out.keep hN8.2.1 (by simp))
        clear hN8
        go_wp2_with fail
        refine (same_any A8' A6 _ _ c8' c6 _ _ w8 HN8.out.by (HY7.out.keep HN8.out.2.1 (by simp)) (by have := HLB5.out; show (rowsB _).length ≤ _; omega)).mono ?_
        rw [decide_eq_true rfl]
        rintro e w9 ⟨rfl, k9, hw9⟩
        have hf89 : Fr [] w8 w9 := by rw [hw9]; exact (Fr.refl [] w8).drewN k9
        have HLOGx := Lib.hid (HLOG8.out.keep hf89 (by simp))
        have HFx9 : Hid (Fr [gd] w5 w9) := Lib.hid ((HF57.out.trans HN8.out.2.1 (by simp)).trans hf89 (by simp))
        have HOx : Hid (w9.ownsRow 0 22 1 (.slice A5 (k + 1) c5) (k + 1) (rs5.map RowV.val)) := Lib.hid (own_keep HO5.out HFx9.out (fun x hx hm => by simp at hm; subst hm; exact log_apart HLOG5.out HO5.out _ (by rw [bk_mem] at hx; exact hx) HGT.out))
        have HOKx : Hid (RowsOk w9 T7 rs5) := Lib.hid (HOK5.out.keep HFx9.out (fun r hr x hx hm => by simp at hm; subst hm; exact (HOK5.out r hr).2 _ hx HGT.out) HT7.out)
        have HFxw : Hid (Fr [] w w9) := Lib.hid (HF5.out.trans HFx9.out (fun x hx hl => by simp at hx; subst hx; have := HT4.out _ HGT.out; omega))
        have HTx : Hid (∀ x ∈ T7, w.heap.size ≤ x) := Lib.hid (fun x hx => by
          by_cases h : x < w5.heap.size
          · exact HT4.out x (HT7.out x hx h)
          · have := HF5.out.size; omega)
        clear hw9 hf89 HLOG8 HLOG7 HLOG5 HO5 HOK5 HDK HDK7 HTE HN6 HN8 HY7 HT7 HF57 HF5 HGD
        go_wp2_with fail
        refine (wrecords_any w9 T7 g7 gd _ _ HLOGx.out (by have := HLB5.out; omega)).mono ?_
        rintro e wa ⟨gr, rr, rfl, hbr, hrr, hyr, hgr, hfr⟩
        have HRL : Hid (Rl wa (some ⟨gr, 0, none⟩) (rs5.map (·.b)).length rr) := Lib.hid (by
          have := Rl.blk hbr (fun r hr => (hyr r hr).1)
          rw [show (rs5.map (·.b)).length = rr.length by rw [← hrr, List.length_map]]
          exact this)
        have HRE := Lib.hid hrr
        have HLOGy := Lib.hid (HLOGx.out.keep hfr (by simp))
        have HOy := Lib.hid (own_keep HOx.out hfr (by simp))
        have HOKy := Lib.hid (HOKx.out.keep (S' := T7) hfr (by simp) (fun x hx _ => hx))
        have HFy := Lib.hid (HFxw.out.and hfr (by simp))
        have HSL : Hid (Rl wa A5 (k + 1) rs5) := Lib.hid (Rl.own HOy.out (fun r hr => By.of_own (HOKy.out r hr).1))
        clear hbr hrr hyr hgr hfr
        rw [HLM.out] at HRL ⊢
        go_wp2_with fail
        refine (krows_yes (some ⟨gr, 0, none⟩) A5 (k + 1) (k + 1) (k + 1) c5 rr rs5 wa HRL.out HSL.out HRE.out (fun r hr => by
          have h1 : r.b ∈ rs5.map (·.b) := by rw [← HRE.out]; exact List.mem_map.2 ⟨r, hr, rfl⟩
          obtain ⟨q, hq, he⟩ := List.mem_map.1 h1
          have := (HRN5.out q hq).2
          rw [← he]
          omega) (by omega)).mono ?_
        rintro e wb ⟨rfl, hfb⟩
        have HLOGz := Lib.hid (HLOGy.out.keep hfb (by simp))
        have HOz := Lib.hid (own_keep HOy.out hfb (by simp))
        have HOKz := Lib.hid (HOKy.out.keep (S' := T7) hfb (by simp) (fun x hx _ => hx))
        have HFz := Lib.hid (HFy.out.and hfb (by simp))
        clear hfb HRL HSL
        obtain ⟨SDz, SWz, hTz, hdz⟩ := HLOGz.out.dok
        have HDZ := Lib.hid hdz
        clear hTz hdz
        go_wp2_with fail
        refine (wlen_any wb T7 g7 gd _ _ HLOGz.out).mono ?_
        rintro e wc ⟨rfl, rfl⟩
        rw [HLM.out]
        go_wp2_with fail
        refine (dsynced_any wb SDz gd _ HDZ.out).mono ?_
        rintro e wc ⟨rfl, rfl⟩
        go_wp2_with fail
        refine (dlen_any wb SDz gd _ HDZ.out).mono ?_
        rintro e wc ⟨rfl, rfl⟩
        rw [show ((cl (rs5.map (·.b))).syn : Int) = ((rowsB (rs5.map (·.b))).length : Int) from rfl, show ((cl (rs5.map (·.b))).row.length : Int) = ((rowsB (rs5.map (·.b))).length : Int) from rfl]
        go_wp2
        go_roundw
        case rel => exact ⟨k + 1, T7, g7, A5, c5, rs5, by omega, by omega, by go_num, rfl, rfl, HLOGz.out, HTx.out, HOz.out, HBK5.out, HOKz.out, HRN5.out, HFz.out⟩
        case measure => simp [intOf]; omega
      · have hcx : (m : Int) ≤ k ∨ ∃ ad2 : Addr, B = some ad2 ∧ (k : Int) < m ∧ w5.cell? (ad2.add k) = some (.bool false) := by
          by_cases hkm : k < m
          · obtain ⟨ad2, b2, hA2, _, hc2⟩ := HBI.out.at HF5.out hkm
            cases b2
            · exact .inr ⟨ad2, hA2, by omega, hc2⟩
            · exact absurd ⟨ad2, hA2, hkm, hc2⟩ hop
          · exact .inl (by omega)
        clear hop
        rcases hcx with hcx | ⟨ad2, rfl, hcx, hcb⟩
        all_goals
          go_wp2_with fail
          refine (wrecords_any w5 T4 g gd _ _ HLOG5.out (by have := HLB5.out; omega)).mono ?_
          rintro e wa ⟨gr, rr, rfl, hbr, hrr, hyr, hgr, hfr⟩
          have HRL : Hid (Rl wa (some ⟨gr, 0, none⟩) (rs5.map (·.b)).length rr) := Lib.hid (by
            have := Rl.blk hbr (fun r hr => (hyr r hr).1)
            rw [show (rs5.map (·.b)).length = rr.length by rw [← hrr, List.length_map]]
            exact this)
          have HRE := Lib.hid hrr
          have HLOGy := Lib.hid (HLOG5.out.keep hfr (by simp))
          have HOy := Lib.hid (own_keep HO5.out hfr (by simp))
          have HOKy := Lib.hid (HOK5.out.keep (S' := T4) hfr (by simp) (fun x hx _ => hx))
          have HFy := Lib.hid (HF5.out.and hfr (by simp))
          have HSL : Hid (Rl wa A5 (k + 1) rs5) := Lib.hid (Rl.own HOy.out (fun r hr => By.of_own (HOKy.out r hr).1))
          clear hbr hrr hyr hgr hfr
          rw [HLM.out] at HRL ⊢
          go_wp2_with fail
          refine (krows_yes (some ⟨gr, 0, none⟩) A5 (k + 1) (k + 1) (k + 1) c5 rr rs5 wa HRL.out HSL.out HRE.out (fun r hr => by
            have h1 : r.b ∈ rs5.map (·.b) := by rw [← HRE.out]; exact List.mem_map.2 ⟨r, hr, rfl⟩
            obtain ⟨q, hq, he⟩ := List.mem_map.1 h1
            have := (HRN5.out q hq).2
            rw [← he]
            omega) (by omega)).mono ?_
          rintro e wb ⟨rfl, hfb⟩
          have HLOGz := Lib.hid (HLOGy.out.keep hfb (by simp))
          have HOz := Lib.hid (own_keep HOy.out hfb (by simp))
          have HOKz := Lib.hid (HOKy.out.keep (S' := T4) hfb (by simp) (fun x hx _ => hx))
          have HFz := Lib.hid (HFy.out.and hfb (by simp))
          clear hfb HRL HSL
          obtain ⟨SDz, SWz, hTz, hdz⟩ := HLOGz.out.dok
          have HDZ := Lib.hid hdz
          clear hTz hdz
          go_wp2_with fail
          refine (wlen_any wb T4 g gd _ _ HLOGz.out).mono ?_
          rintro e wc ⟨rfl, rfl⟩
          rw [HLM.out]
          go_wp2_with fail
          refine (dsynced_any wb SDz gd _ HDZ.out).mono ?_
          rintro e wc ⟨rfl, rfl⟩
          go_wp2_with fail
          refine (dlen_any wb SDz gd _ HDZ.out).mono ?_
          rintro e wc ⟨rfl, rfl⟩
          rw [show ((cl (rs5.map (·.b))).syn : Int) = ((rowsB (rs5.map (·.b))).length : Int) from rfl, show ((cl (rs5.map (·.b))).row.length : Int) = ((rowsB (rs5.map (·.b))).length : Int) from rfl]
          go_wp2
          go_roundw
          case rel => exact ⟨k + 1, T4, g, A5, c5, rs5, by omega, by omega, by go_num, rfl, rfl, HLOGz.out, HT4.out, HOz.out, HBK5.out, HOKz.out, HRN5.out, HFz.out⟩
          case measure => simp [intOf]; omega
    · have hkx : (n : Int) ≤ k ∨ ((k : Int) < n ∧ (10 : Int) ≤ k) := by omega
      rcases hkx with hkx | ⟨hkx0, hkx⟩
      all_goals
        go_wp2_with fail
        refine (wwakes_any wr).mono ?_
        rintro e w9 ⟨rfl, hf9⟩
        have HF9 := Lib.hid hf9
        clear hf9
        go_wp2
        go_ret
        exact ⟨rfl, HF.out.and HF9.out (by simp)⟩
end Go.Proofs.Ytdakilioikhhbaa
