/- Sorting numbers of 64 digits: short rows, whole. -/
import Derived.Test.YtglphddjinmhoaaSu8
import Derived.Test.YtglphddjinmhoaaSu9
namespace Go.Proofs.Ytglphddjinmhoaa
set_option maxRecDepth 100000
open Go.RowKit Go.Sort

/-- a row that was turned about between a and b -/
structure Pu (w : World) (blk off n a b : Nat) (d : Array Int) (w' : World) (d' : Array Int) : Prop where
  row : Hu w' blk off d'
  size : d'.size = n
  fr : Fr [blk] w w'
  perm : PermIn a b d d'
section
variable {w w1 w2 : World} {blk off n a b : Nat} {d d1 d2 : Array Int}
theorem Pu.start (h : Hu w blk off d) (hn : d.size = n) : Pu w blk off n a b d w d := ⟨h, hn, Fr.refl _ _, permIn_refl _ _ _⟩
theorem Pu.then (h : Pu w blk off n a b d w1 d1) (k : Pu w1 blk off n a b d1 w2 d2) : Pu w blk off n a b d w2 d2 :=
  ⟨k.row, k.size, h.fr.trans k.fr (fun _ x _ => x), permIn_trans _ _ _ _ _ h.perm k.perm⟩
theorem Pu.quiet (h : Pu w blk off n a b d w1 d1) (hf : Fr [] w1 w2) : Pu w blk off n a b d w2 d1 :=
  ⟨h.row.keep hf (by simp), h.size, h.fr.trans hf (by simp), h.perm⟩
theorem Pu.of_su (hn : d.size = n) (h : Su w blk off d w1 d1) (hp : PermIn a b d d1) : Pu w blk off n a b d w1 d1 := ⟨h.1, h.2.1.trans hn, h.2.2, hp⟩
theorem Pu.wide {a' b' : Nat} (h : Pu w blk off n a' b' d w1 d1) (ha : a ≤ a') (hb : b' ≤ b) (hbn : b ≤ n) (hd : d.size = n) : Pu w blk off n a b d w1 d1 :=
  ⟨h.row, h.size, h.fr, permIn_mono _ _ _ _ _ _ ha hb (by rw [hd]; exact hbn) h.perm⟩
theorem Pu.below (h : Pu w blk off n a b d w1 d1) (hb : b ≤ n) (hd : d.size = n) (hB : Sort.Below ltInt a b d) : Sort.Below ltInt a b d1 := hB.perm (by rw [hd]; exact hb) h.perm
end
def PdqP (blk off cap n k : Nat) : Prop := ∀ (a b L : Nat) (d : Array Int) (w : World), b - a ≤ k → d.size = n → Hu w blk off d → blk < w.heap.size → a ≤ b → b ≤ n → L < 4611686018427387904 → Sort.Below ltInt a b d →
  Calls Try.prog 56 #[.slice (some ⟨blk, off, none⟩) n cap, .int .i64 a, .int .i64 b, .int .i64 L] w fun e w' => e = .returned (.tuple #[]) ∧ ∃ d', Pu w blk off n a b d w' d' ∧ SortedIn ltInt a b d'

set_option maxHeartbeats 8000000 in
theorem pdq_step (blk off cap n k : Nat) (hn : n < 50) (IH : ∀ j, j < k → PdqP blk off cap n j) : PdqP blk off cap n k := by
  intro a b L d w hk hd hH hlt hab hb hL hB
  have HIH := Lib.hid IH
  have HL := Lib.hid hlt
  have HB := Lib.hid hB
  have HP := Lib.hid (Pu.start (a := a) (b := b) hH hd)
  have HD := Lib.hid hd
  have hsz : n < 4611686018427387904 := by omega
  clear IH hlt hH hB hd
  go_enter Try.func56, Try.ntmps56
  go_wp2_with fail
  go_loopw [1, 2, 3, 8, 9] (fun sa sb sl s8 s9 wr => ∃ (x y M : Nat) (dk : Array Int) (B8 B9 : Bool), sa = .int .i64 x ∧ sb = .int .i64 y ∧ sl = .int .i64 M ∧ s8 = .bool B8 ∧ s9 = .bool B9 ∧ a ≤ x ∧ x ≤ y ∧ y ≤ b ∧ M < 4611686018427387904 ∧
      Hid (Pu w blk off n a b d wr dk) ∧ Hid (Sort.Below ltInt x y dk) ∧ Hid (∀ R, PermIn x y dk R → SortedIn ltInt x y R → PermIn a b d R ∧ SortedIn ltInt a b R)) (fun sa sb _ _ _ _ => ((intOf sb) - (intOf sa)).toNat)
  case atStart => exact ⟨a, b, L, d, true, true, rfl, rfl, rfl, rfl, rfl, Nat.le_refl _, hab, Nat.le_refl _, hL, HP, HB, Lib.hid (fun R h1 h2 => ⟨h1, h2⟩)⟩
  case round =>
    obtain ⟨x, y, M, dk, B8, B9, rfl, rfl, rfl, rfl, rfl, hax, hxy, hyb, hM, HK, HBk, HF⟩ := hrel
    rename World => wk
    have HLk : Hid (blk < wk.heap.size) := Lib.hid (Nat.lt_of_lt_of_le HL.out HK.out.fr.size)
    have hyn : y ≤ n := by omega
    -- how a sorted part ends it
    have END : Hid (∀ wz R, Pu wk blk off n x y dk wz R → SortedIn ltInt x y R → ∃ d', Pu w blk off n a b d wz d' ∧ SortedIn ltInt a b d') := Lib.hid (fun wz R h1 h2 => by
      have h := HF.out R h1.perm h2
      exact ⟨R, ⟨h1.row, h1.size, HK.out.fr.trans h1.fr (fun _ z _ => z), h.1⟩, h.2⟩)
    by_cases h12 : (y : Int) - (x : Int) ≤ 12
    · have hc := ins_u blk off cap x y dk wk HK.out.row hxy (by rw [HK.out.size]; exact hyn) (by rw [HK.out.size]; exact hsz)
      rw [HK.out.size] at hc
      go_wp2_with (first | (go_at_call 73; refine hc.mono ?_; rintro e w2 ⟨rfl, hs2⟩))
      refine bodyPost_ret (v := .tuple #[]) (results_none (by first | rfl | kernel_rfl) _ _ _) rfl ?_
      have hi := insertionSort_holds (lt := ltInt) swo_ltInt dk x y hxy (by rw [HK.out.size]; exact hyn)
      exact ⟨rfl, END.out _ _ (Pu.of_su HK.out.size hs2 hi.1) hi.2⟩
    · by_cases hM0 : M = 0
      · subst hM0
        have hc := heap_u blk off cap x y dk n HK.out.size wk HK.out.row hxy hyn hsz
        go_wp2_with (first | (go_at_call 74; refine hc.mono ?_; rintro e w2 ⟨rfl, hs2⟩))
        refine bodyPost_ret (v := .tuple #[]) (results_none (by first | rfl | kernel_rfl) _ _ _) rfl ?_
        have hi := heapSort_holds (lt := ltInt) swo_ltInt dk x y hxy (by rw [HK.out.size]; exact hyn)
        exact ⟨rfl, END.out _ _ (Pu.of_su HK.out.size hs2 hi.1) hi.2⟩
      · have hM1 : (M : Int) - 1 = ((M - 1 : Nat) : Int) := by omega
        go_upto_if 35 with (fail)
        go_cut [3] (fun s3 wx => ∃ (M1 : Nat) (d1 : Array Int), s3 = .int .i64 M1 ∧ M1 < 4611686018427387904 ∧ Hid (Pu wk blk off n x y dk wx d1))
        case first =>
          cases B8
          · have hc := brk_u blk off cap x y dk n HK.out.size wk HK.out.row HLk.out (by omega) hyn hsz
            go_wp2_with (first | (go_at_call 75; refine hc.mono ?_; rintro e w2 ⟨rfl, d2, h1, h2, h3, h4⟩))
            go_meet
            exact ⟨M - 1, d2, rfl, by omega, Lib.hid ⟨h1, h2, h3, h4⟩⟩
          · go_wp2_with fail
            go_meet
            exact ⟨M, dk, rfl, hM, Lib.hid (Pu.start HK.out.row HK.out.size)⟩
        case rest =>
          obtain ⟨M1, d1, rfl, hM1', H1⟩ := hcut
          rename World => w1
          have hxy' : x < y := by omega
          have hc := piv_u blk off cap x y d1 n H1.out.size w1 H1.out.row (Nat.lt_of_lt_of_le HLk.out H1.out.fr.size) hxy' hyn (by omega) hsz
          go_wp2_with fail
          refine hc.mono ?_
          rintro e w2 ⟨p0, h0, rfl, hp1, hp2, hh, hf2⟩
          have H2 := Lib.hid (H1.out.quiet hf2)
          clear hc hf2 H1
          go_upto_if 50 with (fail)
          go_cut [11, 12] (fun s11 s12 wx => ∃ (p h : Nat) (d3 : Array Int), s11 = .int .i64 p ∧ s12 = .int .i64 h ∧ x ≤ p ∧ p < y ∧ Hid (Pu wk blk off n x y dk wx d3))
          case first =>
            by_cases h2 : h0 = 2
            · subst h2
              have hc := rev_u blk off cap x y d1 w2 H2.out.row hxy' (by rw [H2.out.size]; exact hyn) (by rw [H2.out.size]; exact hsz)
              rw [H2.out.size] at hc
              go_wp2_with (first | (go_at_call 77; refine hc.mono ?_; rintro e w3 ⟨rfl, d3, hs3, hp3⟩))
              go_meet
              exact ⟨y - 1 - (p0 - x), 1, d3, by congr 1; omega, rfl, by omega, by omega, Lib.hid (H2.out.then (Pu.of_su H2.out.size hs3 hp3))⟩
            · go_wp2_with fail
              go_meet
              exact ⟨p0, h0, d1, rfl, rfl, hp1, hp2, H2⟩
          case rest =>
            obtain ⟨p, h, d3, rfl, rfl, hxp, hpy, H3⟩ := hcut
            rename World => w3
            clear hp1 hp2 hh H2
            go_upto_region 15 with (fail)
            go_cut [68] (fun s wx => ∃ B : Bool, s = .bool B ∧ w3 = wx)
            case first =>
              cases B8 <;> cases B9
              all_goals go_wp2_with fail
              all_goals (go_meet; exact ⟨_, rfl, rfl⟩)
            case rest =>
            obtain ⟨B, rfl, rfl⟩ := hcut
            go_upto_if 68 with (fail)
            go_cut [11] (fun s11 wx => s11 = .int .i64 p ∧ Hid (Pu wk blk off n x y dk wx d3))
            case first =>
              have hc := par_u blk off cap x y d3 n H3.out.size w3 H3.out.row hxy' hyn (by omega) hsz
              cases B
              · go_wp2_with fail
                go_meet
                exact ⟨rfl, H3⟩
              · go_wp2_with fail
                refine hc.mono ?_
                rintro e w4 ⟨r, rfl, hr, hf4⟩
                have H4 := Lib.hid (H3.out.quiet hf4)
                cases r
                · go_wp2_with fail
                  go_meet
                  exact ⟨rfl, H4⟩
                · go_wp2_with fail
                  refine bodyPost_ret (v := .tuple #[]) (results_none (by first | rfl | kernel_rfl) _ _ _) rfl ?_
                  exact ⟨rfl, END.out _ _ H4.out (by simpa using hr)⟩
            case rest =>
              obtain ⟨rfl, H4⟩ := hcut
              rename World => w4
              clear H3
              have hB4 := H4.out.below hyn HK.out.size HBk.out
              have HB4 := Lib.hid hB4
              clear hB4
              obtain ⟨G, hG⟩ : ∃ G : Nat → Int, ∀ t, G t = d3[t]! := ⟨fun t => d3[t]!, fun _ => rfl⟩
              have hcw : ∀ t, t < n → w4.cell? ⟨blk, off + t, none⟩ = some (.int .u64 (G t)) := fun t ht => by rw [hG]; exact H4.out.row.cell (by rw [H4.out.size]; exact ht)
              have HG := Lib.hid hG
              clear hG
              have b3 : y ≤ d3.size := by rw [H4.out.size]; exact hyn
              go_upto_region 17 with (fail)
              go_cut [87] (fun s wx => ∃ B : Bool, s = .bool B ∧ Hid (B = true → 0 < x ∧ ltInt d3[x - 1]! d3[p]! = false) ∧ Hid (Fr [] w4 wx))
              case first =>
                rename_i J K2 hJ hK2
                by_cases hx0 : 0 < x
                · go_quiet (first | (go_at_call 79; exact Calls.quiet_of_same (less_u _ _ _)))
                  refine hK2 _ _ (Met.intro (hJ _ _ ?_))
                  repeat apply Exists.intro
                  refine ⟨?_, rfl⟩
                  exact ⟨_, rfl, Lib.hid (fun h => ⟨hx0, by rw [← HG.out, ← HG.out]; simpa using h⟩), Lib.hid ((Fr.refl _ w4).drewN nq)⟩
                · go_quiet (first | (go_at_call 79; exact Calls.quiet_of_same (less_u _ _ _)))
                  refine hK2 _ _ (Met.intro (hJ _ _ ?_))
                  repeat apply Exists.intro
                  refine ⟨?_, rfl⟩
                  exact ⟨_, rfl, Lib.hid (fun h => by cases h), Lib.hid ((Fr.refl _ w4).drewN nq)⟩
              case rest =>
              obtain ⟨C, rfl, HC, HF5⟩ := hcut
              rename World => w5
              have H5 := Lib.hid (H4.out.quiet HF5.out)
              clear hcw HG H4 HF5
              cases C
              · -- the elements below the pivot, and the others
                obtain ⟨mid, ap, d4, hx4⟩ : ∃ mid ap d4, partition ltInt d3 x y p = (mid, ap, d4) := ⟨_, _, _, rfl⟩
                have hc := prt_u blk off cap x y p d3 n H5.out.size w5 H5.out.row hxp hpy hyn hsz
                obtain ⟨hm1, hm2, hs4, hBl, hBr, hLfirst, hRfirst⟩ := round_part swo_ltInt (partition_holds ltInt) hxp hpy b3 HB4.out hx4
                have hp4 : PermIn x y d3 d4 := by
                  have := (partition_holds (lt := ltInt) swo_ltInt d3 x y p hxp hpy b3).2.2.1
                  rwa [hx4] at this
                rw [hx4] at hc
                have HBL := Lib.hid hBl
                have HBR := Lib.hid hBr
                have HLF := Lib.hid hLfirst
                have HRF := Lib.hid hRfirst
                have HP4 := Lib.hid hp4
                have HS4 := Lib.hid hs4
                clear hBl hBr hLfirst hRfirst hp4 hs4 hx4
                go_wp2_with fail
                refine hc.mono ?_
                rintro e w6 ⟨rfl, hs6⟩
                have H6 := Lib.hid (H5.out.then (Pu.of_su H5.out.size hs6 HP4.out))
                have HL6 : Hid (blk < w6.heap.size) := Lib.hid (Nat.lt_of_lt_of_le HLk.out H6.out.fr.size)
                clear hc hs6
                have key : x ≤ mid ∧ mid < y := ⟨hm1, hm2⟩
                go_upto_if 113 with (fail)
                by_cases hlr : (mid : Int) - (x : Int) < (y : Int) - (mid : Int)
                · have hrec := HIH.out (mid - x) (by omega) x mid M1 d4 w6 (Nat.le_refl _) H6.out.size H6.out.row HL6.out hm1 (by omega) hM1' HBL.out
                  go_wp2_with (first | (go_at_call 56; refine hrec.mono ?_; rintro e w7 ⟨rfl, d5, h5, s5⟩))
                  go_roundw
                  case rel =>
                    have hf := HLF.out d5 h5.perm s5
                    exact ⟨mid + 1, y, M1, d5, _, ap, by go_num, rfl, rfl, rfl, rfl, by omega, by omega, hyb, hM1', Lib.hid ((HK.out.then (H6.out.wide hax hyb hb HK.out.size)).then (h5.wide hax (by omega) hb H6.out.size)), Lib.hid hf.1, Lib.hid (fun R h1 h2 => by
                      have h := hf.2 R h1 h2
                      exact HF.out R (permIn_trans _ _ _ _ _ H5.out.perm h.1) h.2)⟩
                  case measure => simp [intOf]; omega
                · have hrec := HIH.out (y - (mid + 1)) (by omega) (mid + 1) y M1 d4 w6 (Nat.le_refl _) H6.out.size H6.out.row HL6.out (by omega) hyn hM1' HBR.out
                  push_cast at hrec
                  go_wp2_with (first | (go_at_call 56; refine hrec.mono ?_; rintro e w7 ⟨rfl, d5, h5, s5⟩))
                  go_roundw
                  case rel =>
                    have hf := HRF.out d5 h5.perm s5
                    exact ⟨x, mid, M1, d5, _, ap, rfl, rfl, rfl, rfl, rfl, by omega, by omega, by omega, hM1', Lib.hid ((HK.out.then (H6.out.wide hax hyb hb HK.out.size)).then (h5.wide (by omega) hyb hb H6.out.size)), Lib.hid hf.1, Lib.hid (fun R h1 h2 => by
                      have h := hf.2 R h1 h2
                      exact HF.out R (permIn_trans _ _ _ _ _ H5.out.perm h.1) h.2)⟩
                  case measure => simp [intOf]; omega
              · have hcc := HC.out rfl
                obtain ⟨mid, d4, hx4⟩ : ∃ mid d4, partitionEqual ltInt d3 x y p = (mid, d4) := ⟨_, _, rfl⟩
                have hc := peq_u blk off cap x y p d3 n H5.out.size w5 H5.out.row hxp hpy hyn hsz
                obtain ⟨hm1, hm2, hs4, hB5, hfin⟩ := round_eq swo_ltInt (partitionEqual_holds ltInt) hcc.1 hxp hpy b3 HB4.out hcc.2 hx4
                have hp4 : PermIn x y d3 d4 := by
                  have hge : ∀ i, x ≤ i → i < y → ltInt d3[i]! d3[p]! = false := fun i hi hi' => by
                    rcases HB4.out with h0 | hB
                    · omega
                    · exact swo_ltInt.ntrans _ _ _ (hB i hi hi') hcc.2
                  have := (partitionEqual_holds (lt := ltInt) swo_ltInt d3 x y p hxp hpy b3 hge).2.2.1
                  rwa [hx4] at this
                rw [hx4] at hc
                have HB5 := Lib.hid hB5
                have HFIN := Lib.hid hfin
                have HP4 := Lib.hid hp4
                clear hB5 hfin hp4 hx4 hcc hs4
                go_wp2_with fail
                refine hc.mono ?_
                rintro e w6 ⟨rfl, hs6⟩
                have H6 := Lib.hid (H5.out.then (Pu.of_su H5.out.size hs6 HP4.out))
                clear hc hs6
                go_wp2_with fail
                go_roundw
                case rel => exact ⟨mid, y, M1, d4, B8, B9, rfl, rfl, rfl, rfl, rfl, by omega, hm2, hyb, hM1', Lib.hid (HK.out.then (H6.out.wide (by omega) (by omega) hb HK.out.size)), HB5, Lib.hid (fun R h1 h2 => by
                  have h := HFIN.out R h1 h2
                  exact HF.out R (permIn_trans _ _ _ _ _ H5.out.perm h.1) h.2)⟩
                case measure => simp [intOf]; omega
end Go.Proofs.Ytglphddjinmhoaa
