/- WalRaw: the walk. -/
import Derived.Test.YtdakilioikhhbaaWls
namespace Go.Proofs.Ytdakilioikhhbaa
set_option maxRecDepth 100000
open Go.RowKit

/-- what is torn behind whole records -/
def longB (t : List UInt8) : List UInt8 := 120 :: t
theorem long_stop (t : List UInt8) (ht : t.length ≤ 40) (k : Nat) : (longB t).take k = [] ∨ rwB ((longB t).take k) 65536 false = true := by
  rcases k with _ | k
  · exact .inl rfl
  · right
    have h : (longB t).take (k + 1) = enc 120 ++ t.take k := by rw [enc_small (by decide)]; rfl
    refine (rw_none (m := 65536) (.inr ⟨120, 1, ?_, ?_⟩)).2.2 false
    · rw [h, dec_enc (by decide)]
      rw [enc_small (by decide)]
      rfl
    · simp only [longB, List.take_succ_cons, List.length_cons, List.length_take]
      omega
theorem long_split {L : List (List UInt8)} (hs : Short L) (t : List UInt8) (ht : t.length ≤ 40) (k : Nat) : Split (rowsB L ++ (longB t).take k) L ((longB t).take k) := ⟨rfl, hs, long_stop t ht k⟩
/-- a disk with something behind the log, all synced, none of it a record: what Open leaves -/
theorem cl_settle2 (L : List (List UInt8)) (T : List UInt8) : (cs (rowsB L ++ T) ((rowsB L).length + T.length)).settleB (rowsB L).length = true ∧ (cs (rowsB L ++ T) ((rowsB L).length + T.length)).settle (rowsB L).length = cl L := by
  by_cases hT : T = []
  · subst hT
    simp only [List.append_nil, List.length_nil, Nat.add_zero]
    exact cl_settle L
  · have hp : 0 < T.length := List.length_pos_iff.2 hT
    have h1 : (rowsB L).length < (cs (rowsB L ++ T) ((rowsB L).length + T.length)).row.length := by simp [cs]; exact hp
    have h2 : (cs (rowsB L ++ T) ((rowsB L).length + T.length)).cutIf (rowsB L).length = cl L := by
      unfold Dsk.cutIf
      rw [if_pos h1]
      simp [Dsk.cutD, Dsk.passB, Dsk.passD, cs, Dsk.leave, cl]
    have h3 : ¬ (cl L).syn < (cl L).row.length := by simp [cl, cs]
    have hp2 : (cs (rowsB L ++ T) ((rowsB L).length + T.length)).passB = true := rfl
    unfold Dsk.settleB Dsk.settle
    rw [h2, hp2, if_neg (by simp), if_neg h3, if_neg (by simp), if_neg h3]
    exact ⟨rfl, rfl⟩
theorem crash_keep (a b : List UInt8) (keep : Int) : (cs (a ++ b) a.length).crash keep = cs (a ++ b.take (min keep.toNat b.length)) (a.length + (b.take (min keep.toNat b.length)).length) := by
  have h : keptN (cs (a ++ b) a.length) keep = a.length + min keep.toNat b.length := by simp [keptN, cs]
  have h2 : (b.take (min keep.toNat b.length)).length = min keep.toNat b.length := by rw [List.length_take]; omega
  unfold Dsk.crash
  rw [h, h2]
  simp [cs, List.take_append]
  exact List.take_of_length_le (by omega)
theorem own_one (w : World) (b : UInt8) : (w.alloc (.cells #[.int .u8 (b.toNat : Int)] 5)).ownsRow 0 5 1 (.slice (some ⟨w.heap.size, 0, none⟩) 1 1) 1 ([b].map by8) :=
  ⟨rfl, .inr ⟨w.heap.size, 1, #[.int .u8 (b.toNat : Int)], rfl, Nat.zero_le _, heap_alloc_new w _, Nat.le_refl _, by unfold maxLen; omega, rfl, rfl⟩⟩

set_option maxHeartbeats 20000000 in
theorem walRaw_walk (w : World) (A : Option Addr) (n c : Nat) (l : List RowV) (hl : RowsIn w A n l) (hc : n ≤ c) (hx : c ≤ maxLen) (B : Option Addr) (m d : Nat) (lt : List UInt8) (hB : By w B m lt) (hm : m ≤ d) (hd : d ≤ maxLen) (cut : Int) (h1 : -9223372036854775808 ≤ cut) (h2 : cut < 9223372036854775808) :
    Calls Try.prog 6 #[.slice A n c, .slice B m d, .int .i64 cut] w fun e w' => e = .returned (.bool true) ∧ Fr [] w w' := by
  unfold maxLen at hx
  have hnm : n ≤ 9223372036854775807 := by omega
  have HL := Lib.hid hl
  have HY := Lib.hid hB
  have HMD := Lib.hid (And.intro hm hd)
  have HCUT := Lib.hid (And.intro h1 h2)
  clear hl hB hx hc hm hd h1 h2
  go_enter Try.func6, Try.ntmps6
  go_wp2_with fail
  refine (dnew_any w).mono ?_
  rintro e w1 ⟨rfl, hd1, hf1⟩
  have HD1 : Hid (Dok w1 [w.heap.size] w.heap.size (cl [])) := Lib.hid hd1
  have HF1 := Lib.hid hf1
  clear hd1 hf1
  generalize hg : w.heap.size = gd at *
  have HG := Lib.hid hg
  clear hg
  go_wp2_with fail
  refine (cl_open w1 [gd] gd [] HD1.out (by intro b hb; simp at hb) (by simp [rowsB])).mono ?_
  rintro e w2 ⟨g, S, rfl, hl2, hf2, hs2⟩
  have HL2 := Lib.hid hl2
  have HF2 : Hid (Fr [] w w2) := Lib.hid (HF1.out.trans hf2 (by intro x hx hl; simp at hx; have := HG.out; omega))
  have HT2 : Hid (∀ x ∈ [gd] ++ S, w.heap.size ≤ x) := Lib.hid (fun x hx => by
    rcases List.mem_append.1 hx with hx | hx
    · simp at hx; have := HG.out; omega
    · have := hs2 x hx; have := HF1.out.size; omega)
  clear hl2 hf2 hs2
  generalize [gd] ++ S = T0 at *
  go_upto_block 0 with (fail)
  go_cut [10] (fun s10 wx => ∃ (T : List Nat) (A8 : Option Addr) (c8 k : Nat) (rs : List RowV), s10 = .slice A8 k c8 ∧ Log wx T g gd (cl (rs.map (·.b))) (rs.map (·.b)) ∧ (∀ x ∈ T, w.heap.size ≤ x) ∧ wx.ownsRow 0 22 1 (.slice A8 k c8) k (rs.map RowV.val) ∧ RowsOk wx T rs ∧ (∀ r ∈ rs, r.n = r.b.length ∧ r.b.length ≤ 60) ∧ k ≤ 6 ∧ Fr [] w wx)
  case first =>
    go_wp2_with fail
    go_loopw [10, 11] (fun s8 i wr => ∃ (k : Nat) (T : List Nat) (A8 : Option Addr) (c8 : Nat) (rs : List RowV), k ≤ n ∧ k ≤ 6 ∧ i = .int .i64 k ∧ s8 = .slice A8 k c8 ∧
      Log wr T g gd (cl (rs.map (·.b))) (rs.map (·.b)) ∧ (∀ x ∈ T, w.heap.size ≤ x) ∧ wr.ownsRow 0 22 1 (.slice A8 k c8) k (rs.map RowV.val) ∧ (∀ x ∈ bk A8, w.heap.size ≤ x) ∧ RowsOk wr T rs ∧ (∀ r ∈ rs, r.n = r.b.length ∧ r.b.length ≤ 60) ∧ Fr [] w wr) (fun _ i _ => 6 - (intOf i).toNat)
    case atStart => exact ⟨0, T0, none, 0, [], by omega, by omega, rfl, rfl, HL2.out, HT2.out, ⟨rfl, .inl ⟨rfl, rfl⟩⟩, by simp [bk], by intro r hr; simp at hr, by simp, HF2.out⟩
    case round =>
      obtain ⟨k, T, A8, c8, rs, hk, hk10, rfl, rfl, hlog, hT, ho8, hbk8, hok, hrn, hf⟩ := hrel
      have HLOG := Lib.hid hlog
      have HT := Lib.hid hT
      have HO8 := Lib.hid ho8
      have HBK8 := Lib.hid hbk8
      have HOK := Lib.hid hok
      have HRN := Lib.hid hrn
      have HF := Lib.hid hf
      clear hlog hT ho8 hbk8 hok hrn hf HD1 HF1
      by_cases hlt : k < n ∧ k < 6
      · obtain ⟨hkn, hk2⟩ := hlt
        obtain ⟨ad, r, rfl, hg, hy, hrc, hrm, hcell⟩ := HL.out.at HF.out.below_all hkn
        have HYR := Lib.hid hy
        have HRC := Lib.hid (And.intro hrc hrm)
        have hk0 : (0 : Int) ≤ k := by omega
        clear hg hy hrc hrm
        go_wp2_with fail
        rw [show (60 : Int) = ((60 : Nat) : Int) from rfl]
        refine (cut_any r.A r.n r.c 60 r.b wr HYR.out (Nat.le_trans HRC.out.1 HRC.out.2) HRC.out.1 (by omega)).mono ?_
        rintro e w3 ⟨A3, c3, rfl, hN3⟩
        have h60 : (r.b.take 60).length ≤ 60 := List.length_take_le _ _
        generalize r.b.take 60 = b at *
        have H60 := Lib.hid h60
        have HN3 := Lib.hid hN3
        have HLOG3 := Lib.hid (HLOG.out.keep hN3.2.1 (by simp))
        have HO3 := Lib.hid (own_keep HO8.out hN3.2.1 (by simp))
        have HOK3 := Lib.hid (HOK.out.keep (S' := T) hN3.2.1 (by simp) (fun x hx _ => hx))
        have HF3 := Lib.hid (HF.out.and hN3.2.1 (by simp))
        have HA3T : Hid (∀ x ∈ bk A3, ¬ x ∈ T) := Lib.hid (fun x hx hm => by have h1 := hN3.2.2 x hx; have h2 := HLOG.out.lt x hm; omega)
        have HLB : Hid ((rowsB (rs.map (·.b))).length ≤ 700) := Lib.hid (by
          have h1 := rowsB_len60 (rs.map (·.b)) (fun b hb => by obtain ⟨r, hr, rfl⟩ := List.mem_map.1 hb; exact (HRN.out r hr).2)
          have h2 := HO8.out.1
          simp only [List.length_map] at h1 h2
          omega)
        clear hN3 h60 hcell
        go_wp2_with (at_builtin; refine Stop.mk ?_)
        refine Stop.go ?_
        refine wpList_append_vals _ rfl (.tmp 40) (.tmp 46) _ rfl 22 (.slice none 0 0) 24 Try.underlying33 info_row rfl (.slice A8 k c8) k _ rfl (HO3.out.alloc _) ⟨w3.heap.size, 0, none⟩ 1
          (.slice A3 b.length c3) rfl ?_ rfl (by omega) (by omega) ?_
        · exact (Blk.new w3 22 #[Value.slice A3 b.length c3]).cell 0
        intro A5 c5 w5 ho5 hg5 hat5
        have hf35 : Fr (bk A8) w3 w5 := (((Fr.refl [] w3).alloc _).mono (by simp)).grown hg5 (fun x hx _ => by rw [bk_mem] at hx; exact hx)
        have hap3 := log_apart HLOG3.out HO3.out
        have HLOG5 := Lib.hid (HLOG3.out.keep hf35 (fun x hx hm => hap3 x hm hx))
        have hok3 : RowsOk w3 T (rs ++ [(⟨A3, b.length, c3, b⟩ : RowV)]) := by
          intro r hr
          rcases List.mem_append.1 hr with h | h
          · exact HOK3.out r h
          · simp at h; subst h; exact ⟨HN3.out.1, HA3T.out⟩
        have HOK5 := Lib.hid (hok3.keep (S' := T) hf35 (fun r hr x hx hm => rows_apart HO3.out (hok3 r hr).1 x hm hx) (fun x hx _ => hx))
        have HF5 := Lib.hid (HF3.out.trans hf35 (fun x hx hl => by have := HBK8.out x hx; omega))
        have HBK5 : Hid (∀ x ∈ bk A5, w.heap.size ≤ x) := Lib.hid (by
          intro x hx
          have := HF3.out.size
          rcases hat5 with e | e
          · rw [e, bk_own] at hx; exact HBK8.out x hx
          · rw [e] at hx; simp at hx; omega)
        have HO5 : Hid (w5.ownsRow 0 22 1 (.slice A5 (k + 1) c5) (k + 1) ((rs ++ [(⟨A3, b.length, c3, b⟩ : RowV)]).map RowV.val)) := Lib.hid (by simpa [RowV.val] using ho5)
        have HRN5 : Hid (∀ r ∈ rs ++ [(⟨A3, b.length, c3, b⟩ : RowV)], r.n = r.b.length ∧ r.b.length ≤ 60) := Lib.hid (by
          intro r hr
          rcases List.mem_append.1 hr with h | h
          · exact HRN.out r h
          · simp at h; subst h; exact ⟨rfl, H60.out⟩)
        have hcat : ∃ ad3, A5 = some ad3 ∧ w5.cell? (ad3.add k) = some (.slice A3 b.length c3) := by
          obtain ⟨gq, cap, hv, _, _⟩ := ho5.form (by omega)
          injection hv with hA
          refine ⟨_, hA, ?_⟩
          subst hA
          have hkl : (rs.map RowV.val).length = k := by have := HO3.out.1; omega
          exact ho5.cells (g := gq) rfl k _ (by rw [List.getElem?_append_right (by omega), hkl]; simp)
        obtain ⟨ad3, rfl, hc3⟩ := hcat
        have HY5 : Hid (By w5 A3 b.length b ∧ ∀ x ∈ bk A3, ¬ x ∈ T ∧ x < w5.heap.size) := Lib.hid (by
          have h := HOK5.out ⟨A3, b.length, c3, b⟩ (by simp)
          exact ⟨By.of_own h.1, fun x hx => ⟨h.2 x hx, HOK5.out.lt ⟨A3, b.length, c3, b⟩ (by simp) x hx⟩⟩)
        clear ho5 hg5 hat5 hf35 hap3 hok3 HO3 HLOG3 HOK3 HLOG HO8 HOK
        go_wp2_with fail
        refine (cl_put w5 T g gd (rs.map (·.b)) HLOG5.out A3 _ c3 b HY5.out.1 HY5.out.2 (by have := H60.out; omega) (by have := HLB.out; omega)).mono ?_
        rintro e w4 ⟨rfl, T4, hl4, hf4, ht4⟩
        have HLOG4 : Hid (Log w4 T4 g gd (cl ((rs ++ [(⟨A3, b.length, c3, b⟩ : RowV)]).map (·.b))) ((rs ++ [(⟨A3, b.length, c3, b⟩ : RowV)]).map (·.b))) := Lib.hid (by simpa using hl4)
        have HT4 : Hid (∀ x ∈ T4, w.heap.size ≤ x) := Lib.hid (fun x hx => by
          by_cases h : x < w5.heap.size
          · exact HT.out x (ht4 x hx h)
          · have := HF5.out.size; omega)
        have hap5 := log_apart HLOG5.out HO5.out
        have HO4 := Lib.hid (own_keep HO5.out hf4 (fun x hx hm => hap5 x (by rw [bk_mem] at hx; exact hx) hm))
        have HOK4 := Lib.hid (HOK5.out.keep (S' := T4) hf4 (fun r hr x hx hm => (HOK5.out r hr).2 x hx hm) ht4)
        have HF4 := Lib.hid (HF5.out.trans hf4 (fun x hx hl => by have := HT.out x hx; omega))
        clear hl4 hf4 ht4 hap5 HLOG5 HO5 HOK5 HF5 HY5 hc3
        go_wp2
        go_roundw
        case rel => exact ⟨k + 1, T4, some ad3, c5, rs ++ [⟨A3, b.length, c3, b⟩], by omega, by omega, by go_num, rfl, HLOG4.out, HT4.out, HO4.out, HBK5.out, HOK4.out, HRN5.out, HF4.out⟩
        case measure => simp [intOf]; omega
      · have hkx : (n : Int) ≤ k ∨ ((k : Int) < n ∧ (6 : Int) ≤ k) := by omega
        rcases hkx with hkx | ⟨hkx0, hkx⟩
        all_goals
          go_wp2_with fail
          all_goals
            go_meet
            exact ⟨T, A8, c8, k, rs, rfl, HLOG.out, HT.out, HO8.out, HOK.out, HRN.out, hk10, HF.out⟩
  case rest =>
    obtain ⟨T, A8, c8, k, rs, rfl, hlog, hT, ho8, hok, hrn, hk6, hf⟩ := hcut
    rename World => wr
    have HT := Lib.hid hT
    have HO8 := Lib.hid ho8
    have HOK := Lib.hid hok
    have HRN := Lib.hid hrn
    have HF := Lib.hid hf
    have HLB : Hid ((rowsB (rs.map (·.b))).length ≤ 700) := Lib.hid (by
      have h1 := rowsB_len60 (rs.map (·.b)) (fun b hb => by obtain ⟨r, hr, rfl⟩ := List.mem_map.1 hb; exact (hrn r hr).2)
      have h2 := ho8.1
      simp only [List.length_map] at h1 h2
      omega)
    have HLL : Hid ((rs.map (·.b)).length = k) := Lib.hid (by have := ho8.1; simp only [List.length_map] at this ⊢; omega)
    have HSH := Lib.hid hlog.short
    obtain ⟨SD, SW, hTE, hdk⟩ := hlog.dok
    have HDK := Lib.hid hdk
    have HSDT : Hid (∀ x ∈ SD, x ∈ T) := Lib.hid (fun x hx => by rw [hTE]; simp [hx])
    have HSDlt := Lib.hid hdk.lt
    have HAP := Lib.hid (log_apart hlog ho8)
    have HGD := Lib.hid hdk.mem
    clear hlog hT ho8 hok hrn hf hTE hdk HD1 HF1 HL2 HF2 HT2
    obtain ⟨L, hLE⟩ : ∃ L, rs.map (·.b) = L := ⟨_, rfl⟩
    have HLE := Lib.hid hLE
    rw [hLE] at HLB HLL HSH HDK
    clear hLE
    have hk6' : (k : Int) ≤ 6 := by omega
    go_wp2_with fail
    refine (dlen_any wr SD gd _ HDK.out).mono ?_
    rintro e w3 ⟨rfl, rfl⟩
    rw [show ((cl L).row.length : Int) = ((rowsB L).length : Int) from rfl]
    go_wp2_with fail
    rw [show (40 : Int) = ((40 : Nat) : Int) from rfl]
    refine (cut_any B m d 40 lt wr (HY.out.keep HF.out (by simp)) (Nat.le_trans HMD.out.1 HMD.out.2) HMD.out.1 (by omega)).mono ?_
    rintro e w3 ⟨A3, c3, rfl, hN3⟩
    have h40 : (lt.take 40).length ≤ 40 := List.length_take_le _ _
    generalize lt.take 40 = t at *
    have H40 := Lib.hid h40
    have HN3 := Lib.hid hN3
    have HDK3 := Lib.hid (HDK.out.keep hN3.2.1 (by simp))
    have HF3 := Lib.hid hN3.2.1
    clear hN3 h40
    go_wp2_with (at_builtin; refine Stop.mk ?_)
    refine Stop.go ?_
    refine wpList_append_bytes _ rfl (.tmp 59) (.tmp 60) _ rfl 5 Try.underlying22 info_u8 (.slice (some ⟨w3.heap.size, 0, none⟩) 1 1) 1 [120] rfl (own_one w3 120) A3 t.length c3 t rfl (HN3.out.by.keep ((Fr.refl [] w3).alloc _) (by simp)) (by have := H40.out; omega) ?_
    intro A4 c4 w4 ho4 hg4 hat4
    have hf34 : Fr [] w3 w4 := (((Fr.refl [] w3).alloc _)).grown hg4 (fun x hx hl => by simp [Value.ownBlock] at hx; omega)
    have HF4 : Hid (Fr [] wr w4) := Lib.hid (HF3.out.and hf34 (by simp))
    have HDK4 := Lib.hid (HDK3.out.keep hf34 (by simp))
    have HO4 : Hid (w4.ownsRow 0 5 1 (.slice A4 (1 + t.length) c4) (1 + t.length) ((longB t).map by8)) := Lib.hid ho4
    have HA4 : Hid (∀ x ∈ bk A4, wr.heap.size ≤ x) := Lib.hid (fun x hx => by
      have := HF3.out.size
      rcases hat4 with e | e
      · rw [e] at hx; simp [Value.ownBlock] at hx; omega
      · rw [e] at hx; simp at hx; omega)
    have HLN : Hid ((longB t).length = 1 + t.length) := Lib.hid (by simp [longB]; omega)
    have HWS : Hid (w.heap.size ≤ wr.heap.size) := Lib.hid HF.out.size
    have ht41 : 1 + t.length ≤ 41 := by have := H40.out; omega
    clear ho4 hg4 hat4 hf34 HDK HDK3 HN3
    generalize hN1 : 1 + t.length = N1 at *
    clear hN1
    go_wp2_with fail
    refine (cput_any w4 w SD gd (rowsB L) (rowsB L).length HDK4.out (Nat.le_refl _) A4 N1 c4 (longB t) (By.of_own HO4.out) (fun x hx he => by have := HA4.out x hx; have := HSDlt.out gd HGD.out; omega) (by have := HLB.out; omega) (fun x hx => HT.out x (HSDT.out x hx)) (by have := HF4.out.size; have := HWS.out; omega)).mono ?_
    rintro e w5 ⟨rfl, SD5, hd5, hf5, hs5⟩
    have HD5 := Lib.hid hd5
    have HS5 := Lib.hid hs5
    have HF5 : Hid (Fr SD wr w5) := Lib.hid ((HF4.out.mono (T := SD) (by simp)).trans hf5 (fun x hx _ => hx))
    have HGD5 := Lib.hid hd5.mem
    clear hd5 hf5 hs5 HDK4 HF4 HO4 HA4
    have hwr : wrap64 ((N1 : Int) + 1) = (N1 : Int) + 1 := by unfold wrap64; omega
    go_wp2_with fail
    refine (within_pos cut ((N1 : Int) + 1) HCUT.out.1 HCUT.out.2 (by omega) (by omega) w5).mono ?_
    rintro e w6 ⟨rfl, rfl⟩
    have hq0 : 0 ≤ cut % ((N1 : Int) + 1) := Int.emod_nonneg _ (by omega)
    have hq1 : cut % ((N1 : Int) + 1) < ((N1 : Int) + 1) := Int.emod_lt_of_pos _ (by omega)
    generalize cut % ((N1 : Int) + 1) = keep at *
    clear hwr
    go_wp2_with fail
    refine (dcrash_any w5 SD5 gd _ HD5.out (cs_ok (by simp) (by rw [List.length_append, HLN.out]; have := HLB.out; omega)) keep (by omega)).mono ?_
    rintro e w6 ⟨rfl, hd6, hf6⟩
    rw [crash_keep] at hd6
    generalize min keep.toNat (longB t).length = q at hd6
    have HSP := Lib.hid (long_split HSH.out t H40.out q)
    have HTL : Hid (((longB t).take q).length ≤ 41) := Lib.hid (by rw [List.length_take, HLN.out]; omega)
    generalize (longB t).take q = U at hd6 HSP HTL
    have HD6 := Lib.hid hd6
    have HF6 : Hid (Fr T wr w6) := Lib.hid ((HF5.out.mono (T := T) (fun x hx _ => HSDT.out x hx)).trans hf6 (fun x hx hl => by
      simp at hx
      subst hx
      exact HSDT.out _ HGD.out))
    clear hd6 hf6 hq0 hq1 HD5 HF5
    go_wp2_with fail
    refine (wopen_any w6 SD5 gd _ HD6.out (cs_ok (by simp) (by rw [List.length_append]; have := HLB.out; have := HTL.out; omega)) rfl L U HSP.out).mono ?_
    rintro e w7 h7
    rcases h7 with ⟨h7, _⟩ | ⟨_, g7, S7, rfl, hl7, hf7, hs7⟩
    · rw [(cl_settle2 L U).1] at h7; cases h7
    rw [(cl_settle2 L U).2] at hl7
    have HL7 := Lib.hid hl7
    have HF7 : Hid (Fr T wr w7) := Lib.hid (HF6.out.trans hf7 (fun x hx hl => by simp at hx; subst hx; exact HSDT.out _ HGD.out))
    have HT7 : Hid (∀ x ∈ SD5 ++ S7, w.heap.size ≤ x) := Lib.hid (fun x hx => by
      rcases List.mem_append.1 hx with hx | hx
      · exact HS5.out x hx
      · have h1 := hs7 x hx
        have h2 := HF6.out.size
        have h3 := HWS.out
        omega)
    clear hl7 hf7 hs7 HD6 HF6
    generalize SD5 ++ S7 = T7 at *
    have HO7 := Lib.hid (own_keep HO8.out HF7.out (fun x hx hm => HAP.out x (by rw [bk_mem] at hx; exact hx) hm))
    have HOK7 := Lib.hid (HOK.out.keep (S' := []) HF7.out (fun r hr x hx hm => (HOK.out r hr).2 x hx hm) (by simp))
    have HW7 : Hid (Fr [] w w7) := Lib.hid (HF.out.trans HF7.out (fun x hx hl => by have := HT.out x hx; omega))
    clear HO8 HOK HF HF7 HAP HT HSDT HSDlt HGD HGD5 HS5
    go_wp2_with fail
    refine (wrecords_any w7 T7 g7 gd _ _ HL7.out (by have := HLB.out; omega)).mono ?_
    rintro e wa ⟨gr, rr, rfl, hbr, hrr, hyr, hgr, hfr⟩
    have HRL : Hid (Rl wa (some ⟨gr, 0, none⟩) L.length rr) := Lib.hid (by
      have := Rl.blk hbr (fun r hr => (hyr r hr).1)
      rw [show L.length = rr.length by rw [← hrr, List.length_map]]
      exact this)
    have HRE := Lib.hid hrr
    have HLa := Lib.hid (HL7.out.keep hfr (by simp))
    have HOa := Lib.hid (own_keep HO7.out hfr (by simp))
    have HOKa := Lib.hid (HOK7.out.keep (S' := []) hfr (by simp) (by simp))
    have HFa := Lib.hid (HW7.out.and hfr (by simp))
    have HSL : Hid (Rl wa A8 k rs) := Lib.hid (Rl.own HOa.out (fun r hr => By.of_own (HOKa.out r hr).1))
    clear hbr hrr hyr hgr hfr HL7 HO7 HOK7 HW7
    rw [HLL.out] at HRL ⊢
    go_wp2_with fail
    refine (krows_yes (some ⟨gr, 0, none⟩) A8 k k k c8 rr rs wa HRL.out HSL.out (by rw [HRE.out, HLE.out]) (fun r hr => by
      have h1 : r.b ∈ rs.map (·.b) := by rw [HLE.out, ← HRE.out]; exact List.mem_map.2 ⟨r, hr, rfl⟩
      obtain ⟨q, hq, he⟩ := List.mem_map.1 h1
      have := (HRN.out q hq).2
      rw [← he]
      omega) (by omega)).mono ?_
    rintro e wb ⟨rfl, hfb⟩
    have HLb := Lib.hid (HLa.out.keep hfb (by simp))
    have HFb := Lib.hid (HFa.out.and hfb (by simp))
    clear hfb HRL HSL HOa HOKa HLa HFa
    obtain ⟨SDb, SWb, hTb, hdb⟩ := HLb.out.dok
    have HDB := Lib.hid hdb
    clear hTb hdb
    go_wp2_with fail
    refine (dlen_any wb SDb gd _ HDB.out).mono ?_
    rintro e wc ⟨rfl, rfl⟩
    rw [show ((cl L).row.length : Int) = ((rowsB L).length : Int) from rfl]
    go_wp2_with fail
    have hfa : Fr [] wb (wb.alloc (Obj.cells #[.int .u8 9] 5)) := (Fr.refl [] wb).alloc _
    have hby : By (wb.alloc (Obj.cells #[.int .u8 9] 5)) (some ⟨wb.heap.size, 0, none⟩) 1 [9] := By.blk [9] (Blk.new _ _ _) rfl
    have HLd := Lib.hid (HLb.out.keep hfa (by simp))
    have HLlt := Lib.hid HLb.out.lt
    have HFd : Hid (Fr [] w (wb.alloc (Obj.cells #[.int .u8 9] 5))) := Lib.hid (HFb.out.and hfa (by simp))
    have HBY := Lib.hid hby
    have HSA : Hid (wb.heap.size < (wb.alloc (Obj.cells #[.int .u8 9] 5)).heap.size) := Lib.hid (by simp)
    clear hfa hby HLb HFb HDB
    generalize wb.alloc (Obj.cells #[.int .u8 9] 5) = wd at *
    generalize wb.heap.size = gb at *
    refine (cl_put wd T7 g7 gd L HLd.out _ 1 1 [9] HBY.out (fun x hx => by simp [bk] at hx; subst hx; exact ⟨fun hm => by have := HLlt.out _ hm; omega, HSA.out⟩) (by omega) (by have := HLB.out; omega)).mono ?_
    rintro e we ⟨rfl, Te, hle, hfe, hte⟩
    have HLe := Lib.hid hle
    have HFe : Hid (Fr [] w we) := Lib.hid (HFd.out.trans hfe (fun x hx hl => by have := HT7.out x hx; omega))
    clear hle hfe hte
    go_wp2_with fail
    refine (wlen_any we Te g7 gd _ _ HLe.out).mono ?_
    rintro e wf ⟨rfl, rfl⟩
    rw [show (((L ++ [([9] : List UInt8)]).length : Nat) : Int) = (k : Int) + 1 by rw [List.length_append, HLL.out]; rfl]
    go_wp2_with fail
    refine (wwakes_any we).mono ?_
    rintro e wg ⟨rfl, hfg⟩
    have HFg := Lib.hid (HFe.out.and hfg (by simp))
    clear hfg
    go_wp2
    go_ret
    exact ⟨rfl, HFg.out⟩
end Go.Proofs.Ytdakilioikhhbaa
