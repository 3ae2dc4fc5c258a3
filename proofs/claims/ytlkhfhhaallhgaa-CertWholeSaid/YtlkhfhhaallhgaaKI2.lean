/- Texts that the proof stands on: Sorting numbers of 64 digits: patterns are broken. | Sorting numbers of 64 digits: short rows, whole. | Sorting numbers of 64 digits: slices.Sort of short rows. | Package cert: Median; the document's median; the example. | The writers and the text of an ack: they are a stamp's (written by gen_ack.py out of XPut). | Equality of structs, field by field: names, signatures, stamps, votes, denials. | The walk of WireConfs. | The walk of WireApart: its small stamps and votes; the text of an ack. | gavelref01's Book: the document's own signatures, as a list. | Maps in memory as lists of keys and values, whatever the keys and the values are: what such a map is; what a look-up, a store, len say of it. Plain lemmas; no program. | gavellaw10.New: two empty books. | The document's median. | Package cert: Time, and the document's. | gavellaw05's Batch: a batch that is small enough to be played. (written by gen_cutb.py) | '==' of two structs in a region that draws its order. | gavelkeep's Openings and Tombs of one list on both sides. (written by gen_slf.py) | Package cert: is a stamp one of a commitment? | gavelref01's small writers: a name, a signature, a commitment, a stamp, an ack, a denial, a vote, an opening; what is signed of them. (written by gen_doc.py) | gavelref01's Book: Sign and Copy. | gavelref01's MakeCommit. | gavelref01's RightCommit. | Package cert: which stamps are right; the document's; configurations' numbers. (written by gen_crs.py) -/
import Derived.Test.YtlkhfhhaallhgaaKI1
import Derived.Laws.Bits64b
import Derived.Test.YtlkhfhhaallhgaaRead
import Derived.Laws.StructEq
import Derived.Test.YtlkhfhhaallhgaaHelp
import Derived.Test.YtlkhfhhaallhgaaReg2
import Derived.Deep.CutBlock
import Derived.IntWalk
import Derived.Test.YtlkhfhhaallhgaaBook3
import Derived.Test.YtlkhfhhaallhgaaActs
import Derived.Deep.DeepCutAuto
import Derived.Test.YtlkhfhhaallhgaaMem
import Derived.Maps.OwnSet
import Derived.DeepKeys4
import Derived.WideKeyEntry
import Derived.Laws.ResultCell
import Derived.Test.YtlkhfhhaallhgaaLend
import Derived.Test.YtlkhfhhaallhgaaReg
import Derived.Test.YtlkhfhhaallhgaaRefTx
import Derived.Deep.AppendLies
import Derived.Test.YtlkhfhhaallhgaaBook2
import Derived.Test.YtlkhfhhaallhgaaCm4
set_option maxRecDepth 100000

namespace Go.Proofs.Ytlkhfhhaallhgaa
set_option maxRecDepth 100000
open Go.RowKit Go.Sort

theorem next_u (rb X : Nat) (hX : X < 18446744073709551616) (w : World) (hb : Blk w rb 144 #[.int .u64 X]) :
    Calls Try.prog 90 #[.pointer (some ⟨rb, 0, none⟩)] w fun e w' => ∃ Y : Nat, Y < 18446744073709551616 ∧ e = .returned (.int .u64 (Y : Int)) ∧ Blk w' rb 144 #[.int .u64 Y] ∧ Fr [rb] w w' := by
  have h := AnyF.xorshift_Next (P := Try.prog) (ρ := sortSt_ren) { sortSt_lays with } rb 0 X hX w (by rw [hb.cell]; rfl) (hb.frozen 0)
  change Calls Try.prog 90 _ _ _ at h
  refine h.mono ?_
  rintro e w' ⟨rfl, rfl⟩
  exact ⟨xorNextN X, xorNextN_lt X hX, rfl, (hb.set 0 _).drewN 3, ((Fr.refl _ w).setCell _ (fun _ => by simp) _).drewN 3⟩
theorem pow_u (n : Nat) (hn : n < 4611686018427387904) (w : World) :
    Calls Try.prog 89 #[.int .i64 n] w fun e w' => e = .returned (.int .u64 ((1 <<< bitsLen n : Nat) : Int)) ∧ w' = w :=
  AnyF.nextPowerOfTwo (P := Try.prog) (ρ := sortSt_ren) { sortSt_lays with } n hn w

set_option maxHeartbeats 4000000 in
theorem brk_u (blk off cap a b : Nat) (d : Array Int) (n : Nat) (hn : d.size = n) (w : World) (hH : Hu w blk off d) (hlt : blk < w.heap.size) (hab : a + 8 ≤ b) (hb : b ≤ n) (hsz : n < 4611686018427387904) :
    Calls Try.prog 81 #[.slice (some ⟨blk, off, none⟩) n cap, .int .i64 a, .int .i64 b] w fun e w' => e = .returned (.tuple #[]) ∧ ∃ d', Hu w' blk off d' ∧ d'.size = n ∧ Fr [blk] w w' ∧ PermIn a b d d' := by
  have HH := Lib.hid hH
  have HN := Lib.hid hn
  have HL := Lib.hid hlt
  clear hH hn hlt
  obtain ⟨l, hl⟩ : ∃ l, l = b - a := ⟨_, rfl⟩
  have e1 : (b : Int) - (a : Int) = (l : Int) := by omega
  obtain ⟨M, hM⟩ : ∃ M : Nat, M = 1 <<< bitsLen l := ⟨_, rfl⟩
  have hM1 : 1 ≤ M := by rw [hM, Nat.one_shiftLeft]; exact Nat.two_pow_pos _
  have hM2 : M ≤ 2 * l := by rw [hM, Nat.one_shiftLeft]; exact two_pow_bitsLen_le (by omega)
  have hNP := fun w => pow_u l (by omega) w
  rw [← hM] at hNP
  obtain ⟨q, hq⟩ : ∃ q, q = l / 4 := ⟨_, rfl⟩
  have e2 : (l : Int).tdiv 4 = (q : Int) := by rw [hq]; exact Int.ofNat_tdiv l 4
  have e2' : (l : Int) / 4 = (q : Int) := by rw [hq]; omega
  have hq4 : 4 * q ≤ l := by omega
  have hq2 : 2 ≤ q := by omega
  have hlb : a + l = b := by omega
  have hl8 : (8 : Int) ≤ (l : Int) := by omega
  clear hl hq hM
  have hwl : IntKind.u64.wrap (l : Int) = (l : Int) := by simp [IntKind.wrap, IntKind.bits, IntKind.signed]; omega
  go_enter Try.func81, Try.ntmps81
  go_upto_region 3 with (fail)
  have hf0 : Fr [] w (w.alloc (Obj.cells #[Value.int IntKind.u64 (l : Int)] 144)) := (Fr.refl [] w).alloc _
  have hb0 : Blk (w.alloc (Obj.cells #[Value.int IntKind.u64 (l : Int)] 144)) w.heap.size 144 #[.int .u64 (l : Int)] := Blk.new w _ _
  generalize w.alloc (Obj.cells #[Value.int IntKind.u64 (l : Int)] 144) = wa at *
  obtain ⟨rb, hrb⟩ : ∃ rb, rb = w.heap.size := ⟨_, rfl⟩
  rw [← hrb] at hb0 ⊢
  have hne : ¬ blk ∈ [rb] := by have := HL.out; simp; omega
  have HRB := Lib.hid hrb
  have HB0 := Lib.hid hb0
  have HF00 := Lib.hid hf0
  have HF0 := Lib.hid (hf0.mono (T := [blk]) (by simp))
  clear hrb hf0 hb0
  have e5 : (a : Int) + (q : Int) * 2 - 1 = ((a + q * 2 - 1 : Nat) : Int) := by omega
  have e6 : (a : Int) + (q : Int) * 2 + 1 = ((a + q * 2 + 1 : Nat) : Int) := by omega
  obtain ⟨m, hm⟩ : ∃ m, m = a + q * 2 - 1 := ⟨_, rfl⟩
  have hm2 : a + q * 2 + 1 = m + 2 := by omega
  rw [hm2] at e6
  rw [← hm] at e5
  have hma : a ≤ m := by omega
  have hmb : m + 3 ≤ b := by omega
  clear hm hm2
  go_wp2_with (first | (go_at_call 89; refine (hNP _).mono ?_; rintro e w' ⟨rfl, rfl⟩))
  go_loopw [9] (fun i wr => ∃ (k X : Nat) (dk : Array Int), i = .int .i64 k ∧ m ≤ k ∧ k ≤ m + 3 ∧ X < 18446744073709551616 ∧ Hid (Hu wr blk off dk) ∧ Hid (dk.size = n) ∧ Hid (Blk wr rb 144 #[.int .u64 X]) ∧ Hid (Fr [blk] w wr) ∧ Hid (PermIn a b d dk)) (fun i _ => m + 3 - (intOf i).toNat)
  case atStart => exact ⟨m, l, d, rfl, Nat.le_refl _, by omega, by omega, Lib.hid (HH.out.keep HF00.out (by simp)), HN, HB0, HF0, Lib.hid (permIn_refl _ _ _)⟩
  case round =>
    obtain ⟨k, X, dk, rfl, hmk, hkm, hX, HD, HS, HB, HF, HP⟩ := hrel
    rename World => wb
    by_cases hk : k ≤ m + 2
    · have hc := next_u rb X hX wb HB.out
      go_wp2_with fail
      refine hc.mono ?_
      rintro e w2 ⟨Y, hY, rfl, hb2, hf2⟩
      have HB2 := Lib.hid hb2
      have HF2 := Lib.hid hf2
      clear hb2 hf2 hc
      have eM : (M : Int) - 1 = ((M - 1 : Nat) : Int) := by omega
      have eA : bits .and .u64 (Y : Int) ((M - 1 : Nat) : Int) = ((Y &&& (M - 1) : Nat) : Int) := bits_and_u64_nat _ _ hY (by omega)
      have hO : Y &&& (M - 1) ≤ M - 1 := Nat.and_le_right
      generalize Y &&& (M - 1) = O at eA hO
      have HD2 := Lib.hid (Su.start (HD.out.keep HF2.out hne))
      have HW2 : Hid (Fr [blk] w w2) := Lib.hid (HF.out.trans HF2.out (fun x hx hl => by have := HRB.out; simp at hx; omega))
      go_upto_if 43 with (fail)
      go_cut [10] (fun s10 wx => ∃ o : Nat, s10 = .int .i64 o ∧ o < l ∧ w2 = wx)
      case first =>
        by_cases hlo : (l : Int) ≤ (O : Int)
        · go_wp2_with fail
          go_meet
          exact ⟨O - l, by congr 1; omega, by omega, rfl⟩
        · go_wp2_with fail
          go_meet
          exact ⟨O, rfl, by omega, rfl⟩
      case rest =>
        obtain ⟨o, rfl, hol, rfl⟩ := hcut
        obtain ⟨G, hG, hcw, hfw⟩ := HD2.out.fam
        rw [HS.out] at hcw hfw
        have HG := Lib.hid hG
        clear hG
        have hxc := fun v => (Su.stored HD2.out (i := k) (v := v) (show k < dk.size by rw [HS.out]; omega) (show a + o < dk.size by rw [HS.out]; omega)).1
        have hxf := fun v => (Su.stored HD2.out (i := k) (v := v) (show k < dk.size by rw [HS.out]; omega) (show a + o < dk.size by rw [HS.out]; omega)).2
        go_wp2_with fail
        go_region
        have hsw : Su w2 blk off dk (((w2.setCell ⟨blk, off + k, none⟩ (.int .u64 (G (a + o)))).setCell ⟨blk, off + (a + o), none⟩ (.int .u64 (G k))).drew) (swp dk k (a + o)) := (HD2.out.swapG (n := 0) HG.out (by rw [HS.out]; omega) (by rw [HS.out]; omega)).drewN 1
        generalize (((w2.setCell ⟨blk, off + k, none⟩ (.int .u64 (G (a + o)))).setCell ⟨blk, off + (a + o), none⟩ (.int .u64 (G k))).drew) = w3 at hsw ⊢
        have HW := Lib.hid hsw
        clear hsw hcw hfw hxc hxf
        go_wp2_with fail
        go_roundw
        case rel => exact ⟨k + 1, Y, swp dk k (a + o), by go_num, by omega, by omega, hY, Lib.hid HW.out.1, Lib.hid (by rw [size_swp, HS.out]), Lib.hid (HB2.out.keep HW.out.2.2 (by have := HL.out; have := HRB.out; simp; omega)), Lib.hid (HW2.out.trans HW.out.2.2 (fun _ h _ => h)), Lib.hid (permIn_trans _ _ _ _ _ HP.out (swp_permIn dk a b k (a + o) (by omega) (by omega) (by omega) (by omega) (by rw [HS.out]; exact hb)))⟩
        case measure => simp [intOf]; omega
    · go_wp2_with fail
      go_end0
      exact ⟨rfl, dk, HD.out, HS.out, HF.out, HP.out⟩
end Go.Proofs.Ytlkhfhhaallhgaa

namespace Go.Proofs.Ytlkhfhhaallhgaa
set_option maxRecDepth 100000
open Go.RowKit Go.Sort

/-- a row that was turned about between a and b -/
structure Pu (w : World) (blk off n a b : Nat) (d : Array Int) (w' : World) (d' : Array Int) : Prop where
  row : Hu w' blk off d'
  size : d'.size = n
  fr : Fr [blk] w w'
  perm : PermIn a b d d'
section
variable {w w1 w2 : World} {blk off n a b : Nat} {d d1 d2 : Array Int}
theorem Pu.start (h : Hu w blk off d) (hn : d.size = n) : Pu w blk off n a b d w d := ⟨h, hn, Fr.refl _ _, permIn_refl _ _ _⟩
theorem Pu.then (h : Pu w blk off n a b d w1 d1) (k : Pu w1 blk off n a b d1 w2 d2) : Pu w blk off n a b d w2 d2 :=
  ⟨k.row, k.size, h.fr.trans k.fr (fun _ x _ => x), permIn_trans _ _ _ _ _ h.perm k.perm⟩
theorem Pu.quiet (h : Pu w blk off n a b d w1 d1) (hf : Fr [] w1 w2) : Pu w blk off n a b d w2 d1 :=
  ⟨h.row.keep hf (by simp), h.size, h.fr.trans hf (by simp), h.perm⟩
theorem Pu.of_su (hn : d.size = n) (h : Su w blk off d w1 d1) (hp : PermIn a b d d1) : Pu w blk off n a b d w1 d1 := ⟨h.1, h.2.1.trans hn, h.2.2, hp⟩
theorem Pu.wide {a' b' : Nat} (h : Pu w blk off n a' b' d w1 d1) (ha : a ≤ a') (hb : b' ≤ b) (hbn : b ≤ n) (hd : d.size = n) : Pu w blk off n a b d w1 d1 :=
  ⟨h.row, h.size, h.fr, permIn_mono _ _ _ _ _ _ ha hb (by rw [hd]; exact hbn) h.perm⟩
theorem Pu.below (h : Pu w blk off n a b d w1 d1) (hb : b ≤ n) (hd : d.size = n) (hB : Sort.Below ltInt a b d) : Sort.Below ltInt a b d1 := hB.perm (by rw [hd]; exact hb) h.perm
end
def PdqP (blk off cap n k : Nat) : Prop := ∀ (a b L : Nat) (d : Array Int) (w : World), b - a ≤ k → d.size = n → Hu w blk off d → blk < w.heap.size → a ≤ b → b ≤ n → L < 4611686018427387904 → Sort.Below ltInt a b d →
  Calls Try.prog 61 #[.slice (some ⟨blk, off, none⟩) n cap, .int .i64 a, .int .i64 b, .int .i64 L] w fun e w' => e = .returned (.tuple #[]) ∧ ∃ d', Pu w blk off n a b d w' d' ∧ SortedIn ltInt a b d'

set_option maxHeartbeats 8000000 in
theorem pdq_step (blk off cap n k : Nat) (hn : n < 50) (IH : ∀ j, j < k → PdqP blk off cap n j) : PdqP blk off cap n k := by
  intro a b L d w hk hd hH hlt hab hb hL hB
  have HIH := Lib.hid IH
  have HL := Lib.hid hlt
  have HB := Lib.hid hB
  have HP := Lib.hid (Pu.start (a := a) (b := b) hH hd)
  have HD := Lib.hid hd
  have hsz : n < 4611686018427387904 := by omega
  clear IH hlt hH hB hd
  go_enter Try.func61, Try.ntmps61
  go_wp2_with fail
  go_loopw [1, 2, 3, 8, 9] (fun sa sb sl s8 s9 wr => ∃ (x y M : Nat) (dk : Array Int) (B8 B9 : Bool), sa = .int .i64 x ∧ sb = .int .i64 y ∧ sl = .int .i64 M ∧ s8 = .bool B8 ∧ s9 = .bool B9 ∧ a ≤ x ∧ x ≤ y ∧ y ≤ b ∧ M < 4611686018427387904 ∧
      Hid (Pu w blk off n a b d wr dk) ∧ Hid (Sort.Below ltInt x y dk) ∧ Hid (∀ R, PermIn x y dk R → SortedIn ltInt x y R → PermIn a b d R ∧ SortedIn ltInt a b R)) (fun sa sb _ _ _ _ => ((intOf sb) - (intOf sa)).toNat)
  case atStart => exact ⟨a, b, L, d, true, true, rfl, rfl, rfl, rfl, rfl, Nat.le_refl _, hab, Nat.le_refl _, hL, HP, HB, Lib.hid (fun R h1 h2 => ⟨h1, h2⟩)⟩
  case round =>
    obtain ⟨x, y, M, dk, B8, B9, rfl, rfl, rfl, rfl, rfl, hax, hxy, hyb, hM, HK, HBk, HF⟩ := hrel
    rename World => wk
    have HLk : Hid (blk < wk.heap.size) := Lib.hid (Nat.lt_of_lt_of_le HL.out HK.out.fr.size)
    have hyn : y ≤ n := by omega
    -- how a sorted part ends it
    have END : Hid (∀ wz R, Pu wk blk off n x y dk wz R → SortedIn ltInt x y R → ∃ d', Pu w blk off n a b d wz d' ∧ SortedIn ltInt a b d') := Lib.hid (fun wz R h1 h2 => by
      have h := HF.out R h1.perm h2
      exact ⟨R, ⟨h1.row, h1.size, HK.out.fr.trans h1.fr (fun _ z _ => z), h.1⟩, h.2⟩)
    by_cases h12 : (y : Int) - (x : Int) ≤ 12
    · have hc := ins_u blk off cap x y dk wk HK.out.row hxy (by rw [HK.out.size]; exact hyn) (by rw [HK.out.size]; exact hsz)
      rw [HK.out.size] at hc
      go_wp2_with (first | (go_at_call 79; refine hc.mono ?_; rintro e w2 ⟨rfl, hs2⟩))
      refine bodyPost_ret (v := .tuple #[]) (results_none (by first | rfl | kernel_rfl) _ _ _) rfl ?_
      have hi := insertionSort_holds (lt := ltInt) swo_ltInt dk x y hxy (by rw [HK.out.size]; exact hyn)
      exact ⟨rfl, END.out _ _ (Pu.of_su HK.out.size hs2 hi.1) hi.2⟩
    · by_cases hM0 : M = 0
      · subst hM0
        have hc := heap_u blk off cap x y dk n HK.out.size wk HK.out.row hxy hyn hsz
        go_wp2_with (first | (go_at_call 80; refine hc.mono ?_; rintro e w2 ⟨rfl, hs2⟩))
        refine bodyPost_ret (v := .tuple #[]) (results_none (by first | rfl | kernel_rfl) _ _ _) rfl ?_
        have hi := heapSort_holds (lt := ltInt) swo_ltInt dk x y hxy (by rw [HK.out.size]; exact hyn)
        exact ⟨rfl, END.out _ _ (Pu.of_su HK.out.size hs2 hi.1) hi.2⟩
      · have hM1 : (M : Int) - 1 = ((M - 1 : Nat) : Int) := by omega
        go_upto_if 35 with (fail)
        go_cut [3] (fun s3 wx => ∃ (M1 : Nat) (d1 : Array Int), s3 = .int .i64 M1 ∧ M1 < 4611686018427387904 ∧ Hid (Pu wk blk off n x y dk wx d1))
        case first =>
          cases B8
          · have hc := brk_u blk off cap x y dk n HK.out.size wk HK.out.row HLk.out (by omega) hyn hsz
            go_wp2_with (first | (go_at_call 81; refine hc.mono ?_; rintro e w2 ⟨rfl, d2, h1, h2, h3, h4⟩))
            go_meet
            exact ⟨M - 1, d2, rfl, by omega, Lib.hid ⟨h1, h2, h3, h4⟩⟩
          · go_wp2_with fail
            go_meet
            exact ⟨M, dk, rfl, hM, Lib.hid (Pu.start HK.out.row HK.out.size)⟩
        case rest =>
          obtain ⟨M1, d1, rfl, hM1', H1⟩ := hcut
          rename World => w1
          have hxy' : x < y := by omega
          have hc := piv_u blk off cap x y d1 n H1.out.size w1 H1.out.row (Nat.lt_of_lt_of_le HLk.out H1.out.fr.size) hxy' hyn (by omega) hsz
          go_wp2_with fail
          refine hc.mono ?_
          rintro e w2 ⟨p0, h0, rfl, hp1, hp2, hh, hf2⟩
          have H2 := Lib.hid (H1.out.quiet hf2)
          clear hc hf2 H1
          go_upto_if 50 with (fail)
          go_cut [11, 12] (fun s11 s12 wx => ∃ (p h : Nat) (d3 : Array Int), s11 = .int .i64 p ∧ s12 = .int .i64 h ∧ x ≤ p ∧ p < y ∧ Hid (Pu wk blk off n x y dk wx d3))
          case first =>
            by_cases h2 : h0 = 2
            · subst h2
              have hc := rev_u blk off cap x y d1 w2 H2.out.row hxy' (by rw [H2.out.size]; exact hyn) (by rw [H2.out.size]; exact hsz)
              rw [H2.out.size] at hc
              go_wp2_with (first | (go_at_call 83; refine hc.mono ?_; rintro e w3 ⟨rfl, d3, hs3, hp3⟩))
              go_meet
              exact ⟨y - 1 - (p0 - x), 1, d3, by congr 1; omega, rfl, by omega, by omega, Lib.hid (H2.out.then (Pu.of_su H2.out.size hs3 hp3))⟩
            · go_wp2_with fail
              go_meet
              exact ⟨p0, h0, d1, rfl, rfl, hp1, hp2, H2⟩
          case rest =>
            obtain ⟨p, h, d3, rfl, rfl, hxp, hpy, H3⟩ := hcut
            rename World => w3
            clear hp1 hp2 hh H2
            go_upto_region 15 with (fail)
            go_cut [68] (fun s wx => ∃ B : Bool, s = .bool B ∧ w3 = wx)
            case first =>
              cases B8 <;> cases B9
              all_goals go_wp2_with fail
              all_goals (go_meet; exact ⟨_, rfl, rfl⟩)
            case rest =>
            obtain ⟨B, rfl, rfl⟩ := hcut
            go_upto_if 68 with (fail)
            go_cut [11] (fun s11 wx => s11 = .int .i64 p ∧ Hid (Pu wk blk off n x y dk wx d3))
            case first =>
              have hc := par_u blk off cap x y d3 n H3.out.size w3 H3.out.row hxy' hyn (by omega) hsz
              cases B
              · go_wp2_with fail
                go_meet
                exact ⟨rfl, H3⟩
              · go_wp2_with fail
                refine hc.mono ?_
                rintro e w4 ⟨r, rfl, hr, hf4⟩
                have H4 := Lib.hid (H3.out.quiet hf4)
                cases r
                · go_wp2_with fail
                  go_meet
                  exact ⟨rfl, H4⟩
                · go_wp2_with fail
                  refine bodyPost_ret (v := .tuple #[]) (results_none (by first | rfl | kernel_rfl) _ _ _) rfl ?_
                  exact ⟨rfl, END.out _ _ H4.out (by simpa using hr)⟩
            case rest =>
              obtain ⟨rfl, H4⟩ := hcut
              rename World => w4
              clear H3
              have hB4 := H4.out.below hyn HK.out.size HBk.out
              have HB4 := Lib.hid hB4
              clear hB4
              obtain ⟨G, hG⟩ : ∃ G : Nat → Int, ∀ t, G t = d3[t]! := ⟨fun t => d3[t]!, fun _ => rfl⟩
              have hcw : ∀ t, t < n → w4.cell? ⟨blk, off + t, none⟩ = some (.int .u64 (G t)) := fun t ht => by rw [hG]; exact H4.out.row.cell (by rw [H4.out.size]; exact ht)
              have HG := Lib.hid hG
              clear hG
              have b3 : y ≤ d3.size := by rw [H4.out.size]; exact hyn
              go_upto_region 17 with (fail)
              go_cut [87] (fun s wx => ∃ B : Bool, s = .bool B ∧ Hid (B = true → 0 < x ∧ ltInt d3[x - 1]! d3[p]! = false) ∧ Hid (Fr [] w4 wx))
              case first =>
                rename_i J K2 hJ hK2
                by_cases hx0 : 0 < x
                · go_quiet (first | (go_at_call 85; exact Calls.quiet_of_same (less_u _ _ _)))
                  refine hK2 _ _ (Met.intro (hJ _ _ ?_))
                  repeat apply Exists.intro
                  refine ⟨?_, rfl⟩
                  exact ⟨_, rfl, Lib.hid (fun h => ⟨hx0, by rw [← HG.out, ← HG.out]; simpa using h⟩), Lib.hid ((Fr.refl _ w4).drewN nq)⟩
                · go_quiet (first | (go_at_call 85; exact Calls.quiet_of_same (less_u _ _ _)))
                  refine hK2 _ _ (Met.intro (hJ _ _ ?_))
                  repeat apply Exists.intro
                  refine ⟨?_, rfl⟩
                  exact ⟨_, rfl, Lib.hid (fun h => by cases h), Lib.hid ((Fr.refl _ w4).drewN nq)⟩
              case rest =>
              obtain ⟨C, rfl, HC, HF5⟩ := hcut
              rename World => w5
              have H5 := Lib.hid (H4.out.quiet HF5.out)
              clear hcw HG H4 HF5
              cases C
              · -- the elements below the pivot, and the others
                obtain ⟨mid, ap, d4, hx4⟩ : ∃ mid ap d4, partition ltInt d3 x y p = (mid, ap, d4) := ⟨_, _, _, rfl⟩
                have hc := prt_u blk off cap x y p d3 n H5.out.size w5 H5.out.row hxp hpy hyn hsz
                obtain ⟨hm1, hm2, hs4, hBl, hBr, hLfirst, hRfirst⟩ := round_part swo_ltInt (partition_holds ltInt) hxp hpy b3 HB4.out hx4
                have hp4 : PermIn x y d3 d4 := by
                  have := (partition_holds (lt := ltInt) swo_ltInt d3 x y p hxp hpy b3).2.2.1
                  rwa [hx4] at this
                rw [hx4] at hc
                have HBL := Lib.hid hBl
                have HBR := Lib.hid hBr
                have HLF := Lib.hid hLfirst
                have HRF := Lib.hid hRfirst
                have HP4 := Lib.hid hp4
                have HS4 := Lib.hid hs4
                clear hBl hBr hLfirst hRfirst hp4 hs4 hx4
                go_wp2_with fail
                refine hc.mono ?_
                rintro e w6 ⟨rfl, hs6⟩
                have H6 := Lib.hid (H5.out.then (Pu.of_su H5.out.size hs6 HP4.out))
                have HL6 : Hid (blk < w6.heap.size) := Lib.hid (Nat.lt_of_lt_of_le HLk.out H6.out.fr.size)
                clear hc hs6
                have key : x ≤ mid ∧ mid < y := ⟨hm1, hm2⟩
                go_upto_if 113 with (fail)
                by_cases hlr : (mid : Int) - (x : Int) < (y : Int) - (mid : Int)
                · have hrec := HIH.out (mid - x) (by omega) x mid M1 d4 w6 (Nat.le_refl _) H6.out.size H6.out.row HL6.out hm1 (by omega) hM1' HBL.out
                  go_wp2_with (first | (go_at_call 61; refine hrec.mono ?_; rintro e w7 ⟨rfl, d5, h5, s5⟩))
                  go_roundw
                  case rel =>
                    have hf := HLF.out d5 h5.perm s5
                    exact ⟨mid + 1, y, M1, d5, _, ap, by go_num, rfl, rfl, rfl, rfl, by omega, by omega, hyb, hM1', Lib.hid ((HK.out.then (H6.out.wide hax hyb hb HK.out.size)).then (h5.wide hax (by omega) hb H6.out.size)), Lib.hid hf.1, Lib.hid (fun R h1 h2 => by
                      have h := hf.2 R h1 h2
                      exact HF.out R (permIn_trans _ _ _ _ _ H5.out.perm h.1) h.2)⟩
                  case measure => simp [intOf]; omega
                · have hrec := HIH.out (y - (mid + 1)) (by omega) (mid + 1) y M1 d4 w6 (Nat.le_refl _) H6.out.size H6.out.row HL6.out (by omega) hyn hM1' HBR.out
                  push_cast at hrec
                  go_wp2_with (first | (go_at_call 61; refine hrec.mono ?_; rintro e w7 ⟨rfl, d5, h5, s5⟩))
                  go_roundw
                  case rel =>
                    have hf := HRF.out d5 h5.perm s5
                    exact ⟨x, mid, M1, d5, _, ap, rfl, rfl, rfl, rfl, rfl, by omega, by omega, by omega, hM1', Lib.hid ((HK.out.then (H6.out.wide hax hyb hb HK.out.size)).then (h5.wide (by omega) hyb hb H6.out.size)), Lib.hid hf.1, Lib.hid (fun R h1 h2 => by
                      have h := hf.2 R h1 h2
                      exact HF.out R (permIn_trans _ _ _ _ _ H5.out.perm h.1) h.2)⟩
                  case measure => simp [intOf]; omega
              · have hcc := HC.out rfl
                obtain ⟨mid, d4, hx4⟩ : ∃ mid d4, partitionEqual ltInt d3 x y p = (mid, d4) := ⟨_, _, rfl⟩
                have hc := peq_u blk off cap x y p d3 n H5.out.size w5 H5.out.row hxp hpy hyn hsz
                obtain ⟨hm1, hm2, hs4, hB5, hfin⟩ := round_eq swo_ltInt (partitionEqual_holds ltInt) hcc.1 hxp hpy b3 HB4.out hcc.2 hx4
                have hp4 : PermIn x y d3 d4 := by
                  have hge : ∀ i, x ≤ i → i < y → ltInt d3[i]! d3[p]! = false := fun i hi hi' => by
                    rcases HB4.out with h0 | hB
                    · omega
                    · exact swo_ltInt.ntrans _ _ _ (hB i hi hi') hcc.2
                  have := (partitionEqual_holds (lt := ltInt) swo_ltInt d3 x y p hxp hpy b3 hge).2.2.1
                  rwa [hx4] at this
                rw [hx4] at hc
                have HB5 := Lib.hid hB5
                have HFIN := Lib.hid hfin
                have HP4 := Lib.hid hp4
                clear hB5 hfin hp4 hx4 hcc hs4
                go_wp2_with fail
                refine hc.mono ?_
                rintro e w6 ⟨rfl, hs6⟩
                have H6 := Lib.hid (H5.out.then (Pu.of_su H5.out.size hs6 HP4.out))
                clear hc hs6
                go_wp2_with fail
                go_roundw
                case rel => exact ⟨mid, y, M1, d4, B8, B9, rfl, rfl, rfl, rfl, rfl, by omega, hm2, hyb, hM1', Lib.hid (HK.out.then (H6.out.wide (by omega) (by omega) hb HK.out.size)), HB5, Lib.hid (fun R h1 h2 => by
                  have h := HFIN.out R h1 h2
                  exact HF.out R (permIn_trans _ _ _ _ _ H5.out.perm h.1) h.2)⟩
                case measure => simp [intOf]; omega
end Go.Proofs.Ytlkhfhhaallhgaa

namespace Go.Proofs.Ytlkhfhhaallhgaa
set_option maxRecDepth 100000
open Go.RowKit Go.Sort

theorem pdq_u (blk off cap n : Nat) (hn : n < 50) (k : Nat) : PdqP blk off cap n k := by
  induction k using Nat.strongRecOn with
  | ind k ih => exact pdq_step blk off cap n k hn ih
theorem len_u (n : Nat) (hn : n < 18446744073709551616) (w : World) :
    Calls Try.prog 53 #[.int .u64 n] w fun e w' => e = .returned (.int .i64 (Lib.bitLen n : Nat)) ∧ w' = w := by
  have h := Any.bits_Len (P := Try.prog) (ρ := bitsLen_ren) bitsLen_lays (n : Int) w (by omega) (by omega)
  rw [Int.toNat_natCast] at h
  exact h
set_option maxHeartbeats 1000000 in
theorem sort_u (blk cap n : Nat) (d : Array Int) (hd : d.size = n) (hn : n < 50) (w : World) (hH : Hu w blk 0 d) (hlt : blk < w.heap.size) :
    Calls Try.prog 48 #[.slice (some ⟨blk, 0, none⟩) n cap] w fun e w' => e = .returned (.tuple #[]) ∧ ∃ d', Pu w blk 0 n 0 n d w' d' ∧ SortedIn ltInt 0 n d' := by
  have hl := fun w => len_u n (by omega) w
  have hb : Lib.bitLen n < 4611686018427387904 := Nat.lt_of_le_of_lt (Lib.bitLen_le n 62 (by omega) (by omega)) (by omega)
  have hp := pdq_u blk 0 cap n hn n 0 n (Lib.bitLen n) d w (by omega) hd hH hlt (Nat.zero_le _) (Nat.le_refl _) hb (Or.inl rfl)
  have hw : IntKind.u64.wrap (n : Int) = (n : Int) := by simp [IntKind.wrap, IntKind.bits, IntKind.signed]; omega
  generalize Lib.bitLen n = L at *
  clear hH hd
  go_enter Try.func48, Try.ntmps48
  go_wp2_with (first | (go_at_call 53; refine (hl _).mono ?_; rintro e w' ⟨rfl, rfl⟩) | (go_at_call 61; refine hp.mono ?_; rintro e w' ⟨rfl, d', h1, h2⟩))
  go_end0
  exact ⟨rfl, d', h1, h2⟩
end Go.Proofs.Ytlkhfhhaallhgaa

namespace Go.Proofs.Ytlkhfhhaallhgaa
open Go.RowKit Go.Sort
set_option maxRecDepth 100000

set_option maxHeartbeats 1000000 in
theorem median_any (A : Option Addr) (n c : Nat) (l : List Int) (w : World) (hr : UL w A n l) (hn : n ≤ 50) :
    Calls Try.prog 30 #[.slice A n c] w fun e w' => ∃ m : Int, e = .returned (.tuple #[.int .u64 m, .bool (n % 2 == 1)]) ∧ (n % 2 = 1 → IsMed l m) ∧ (n % 2 = 0 → m = 0) ∧ Fr [] w w' := by
  obtain ⟨h, hh⟩ : ∃ h, h = n / 2 := ⟨_, rfl⟩
  have e1 : (n : Int).tdiv 2 = (h : Int) := by rw [hh]; exact Int.ofNat_tdiv n 2
  have e1' : (n : Int) / 2 = (h : Int) := by rw [hh]; omega
  rcases Nat.mod_two_eq_zero_or_one n with h0 | h0
  · have e2 : (n : Int).tmod 2 = 0 := by rw [show (2 : Int) = ((2 : Nat) : Int) from rfl, ← Int.ofNat_tmod, h0]; rfl
    have e3 : (n : Int) % 2 = 0 := by omega
    have e4 : (n % 2 == 1) = false := by rw [h0]; rfl
    rw [e4]
    clear hr hh e4
    go_enter Try.func30, Try.ntmps30
    go_wp2_with fail
    go_ret2
    exact ⟨0, rfl, fun h => by omega, fun _ => rfl, Fr.refl _ _⟩
  · have e2 : (n : Int).tmod 2 = 1 := by rw [show (2 : Int) = ((2 : Nat) : Int) from rfl, ← Int.ofNat_tmod, h0]; rfl
    have e3 : (n : Int) % 2 = 1 := by omega
    have e4 : (n % 2 == 1) = true := by rw [h0]; rfl
    rw [e4]
    have hn0 : 0 < n := by omega
    have hhn : h < n := by omega
    have HH := Lib.hid hh
    have hc := clone_u A n c l w hr hn0 (by omega)
    have HR := Lib.hid hr
    clear hr hh e4
    go_enter Try.func30, Try.ntmps30
    go_wp2_with fail
    refine hc.mono ?_
    rintro e w1 ⟨A1, c1, rfl, hN⟩
    have hl : l.length = n := HR.out.1
    obtain ⟨g, rfl, hg, hu⟩ := Hu.of_own hN.1 hl hn0
    have hs := sort_u g c1 n l.toArray (by simpa using hl) (by omega) w1 hu hg
    have HF1 : Hid (Fr [] w w1) := Lib.hid hN.2.1
    have HG : Hid (w.heap.size ≤ g) := Lib.hid (hN.2.2 g (by simp [bk]))
    have HL := Lib.hid hl
    clear hc hN hu hg hl
    go_wp2_with fail
    refine hs.mono ?_
    rintro e w2 ⟨rfl, d2, hp2, hs2⟩
    have hcell : w2.cell? ⟨g, h, none⟩ = some (.int .u64 d2[h]!) := by
      have := hp2.row.cell (j := h) (by rw [hp2.size]; exact hhn)
      rwa [Nat.zero_add] at this
    have HM : Hid (IsMed l d2[h]!) := Lib.hid (by
      have hsz : l.toArray.size = n := by simpa using HL.out
      have := isMed_of (d := l.toArray) (d' := d2) (by rw [hsz]; exact hp2.perm) (by rw [hsz]; exact hs2) (by rw [hsz]; exact hn0)
      rw [hsz, ← HH.out] at this
      simpa using this)
    have HF2 : Hid (Fr [] w w2) := Lib.hid (HF1.out.and hp2.fr (by have := HG.out; simp; omega))
    generalize d2[h]! = m at hcell HM
    clear hs hp2 hs2
    go_wp2_with fail
    go_ret2
    exact ⟨m, rfl, fun _ => HM.out, fun h => by omega, HF2.out⟩
theorem ul_of_blk {w : World} {g : Nat} {l : List Int} {t : TypeId} (h : Blk w g t (l.map (fun z => Value.int .u64 z)).toArray) (hk : ∀ z ∈ l, 0 ≤ z ∧ z < 18446744073709551616) : UL w (some ⟨g, 0, none⟩) l.length l := by
  refine ⟨rfl, fun v hv => ⟨rfl, ?_⟩, fun _ => ⟨_, rfl, fun i v hi j x hx => ?_⟩⟩
  · have := hk v hv
    simp only [uok, Lit.wf, Bool.and_eq_true, decide_eq_true_eq]
    exact ⟨by show (0 : Int) ≤ v; omega, by show v ≤ 18446744073709551615; omega⟩
  · have hj : j = 0 := by
      have := (List.getElem?_eq_some_iff.1 hx).1
      simp [uc] at this
      omega
    subst hj
    simp [uc] at hx
    subst hx
    have e : (⟨g, 0, none⟩ : Addr).add (i * 1 + 0) = ⟨g, i, none⟩ := by unfold Addr.add; split <;> simp_all
    rw [e, h.cell i]
    simp [hi]
set_option maxHeartbeats 1000000 in
theorem cewakes_any (w : World) : Calls Try.prog 12 #[] w fun e w' => e = .returned (.bool true) ∧ Fr [] w w' := by
  have hb : Blk (w.alloc (Obj.cells #[.int .u64 5, .int .u64 1, .int .u64 3] 43)) w.heap.size 43 #[.int .u64 5, .int .u64 1, .int .u64 3] := Blk.new w _ _
  have hu : UL (w.alloc (Obj.cells #[.int .u64 5, .int .u64 1, .int .u64 3] 43)) (some ⟨w.heap.size, 0, none⟩) 3 [5, 1, 3] := ul_of_blk (l := [5, 1, 3]) hb (by decide)
  have hc := median_any (some ⟨w.heap.size, 0, none⟩) 3 3 [5, 1, 3] _ hu (by decide)
  have HF : Hid (Fr [] w (w.alloc (Obj.cells #[.int .u64 5, .int .u64 1, .int .u64 3] 43))) := Lib.hid ((Fr.refl [] w).alloc _)
  clear hb hu
  go_enter Try.func12, Try.ntmps12
  go_wp2_with fail
  refine hc.mono ?_
  rintro e w2 ⟨m, rfl, hm, -, hf⟩
  have hm3 : m = 3 := by
    have h : IsMed [5, 1, 3] m := by simpa using hm
    exact h.one ⟨by decide, by decide, by decide⟩
  subst hm3
  have HF2 := Lib.hid (HF.out.and hf (by simp))
  clear hc hm hf
  go_wp2_with fail
  go_ret
  exact ⟨rfl, HF2.out⟩
section
variable {H : Type} {enc : TypeId × Value → H} {w : World} {spare : Nat → Bool} {held : Bool}
theorem ul_of_trod {fuel : Nat} {A : Option Addr} {len cap : Nat} {x : DataW H × List MemPlace} (h : DataW.trod enc Try.prog w 0 spare held fuel 24 [.slice A len cap] = some x) :
    ∃ l, UL w A len l ∧ len ≤ cap ∧ cap ≤ maxLen := by
  rcases Go.ChangeShapes.open_ints Try.underlying24 Try.underlying43 (by kernel_rfl) h with ⟨hcs, _⟩ | ⟨x, l, c, zs, hcs, _, hl, hm, hz, _, hcell, hwz⟩
  · simp at hcs
    obtain ⟨rfl, rfl, rfl⟩ := hcs
    exact ⟨[], ⟨rfl, by simp, fun h => absurd h (by omega)⟩, Nat.le_refl _, Nat.zero_le _⟩
  · simp at hcs
    obtain ⟨rfl, rfl, rfl⟩ := hcs
    have hlen : len ≤ zs.length := by rw [hz]; split <;> omega
    refine ⟨zs.take len, ⟨by simp; omega, fun v hv => ⟨rfl, hwz v (List.mem_of_mem_take hv)⟩, fun _ => ⟨x, rfl, fun i v hi j y hy => ?_⟩⟩, hl, hm⟩
    have hj : j = 0 := by
      have := (List.getElem?_eq_some_iff.1 hy).1
      simp [uc] at this
      omega
    subst hj
    simp [uc] at hy
    subst hy
    rw [List.getElem?_take] at hi
    split at hi
    · have hjl : i < zs.length := (List.getElem?_eq_some_iff.1 hi).1
      rw [Nat.mul_one, Nat.add_zero, hcell i hjl, List.getD, hi]
      rfl
    · cases hi
end
end Go.Proofs.Ytlkhfhhaallhgaa

namespace Go.Proofs.Ytlkhfhhaallhgaa
open Go.RowKit
set_option maxRecDepth 100000
def wAck : List UInt8 := [97, 99, 107]
def Wst.ack (x : Wst) : List UInt8 := enc wAck.length ++ wAck ++ x.bare
theorem Wst.ack_len {x : Wst} (hx : x.Ok) : x.ack.length ≤ 100 := by
  have b0 := Wst.bare_len hx
  have b1 := enc_ten (m := wAck.length) (by decide)
  have b2 : wAck.length = 3 := rfl
  simp only [Wst.ack, List.length_append]
  omega
end Go.Proofs.Ytlkhfhhaallhgaa

namespace Go.Proofs.Ytlkhfhhaallhgaa
open Go.RowKit
set_option maxRecDepth 100000

theorem eqFields_bool {P : Program} {d : Nat} {xs ys : Array Value} {f : Field} {fs : List Field} {u v : Value} {b : Bool} {w : World} (hn : f.name ≠ "_") (p : (part f.type xs f.offset).run P w = .ok u w) (p' : (part f.type ys f.offset).run P w = .ok v w)
    (q : (Op.equalIn d f.type u v).run P w = .ok b w) : (Op.eqFields d xs ys (f :: fs)).run P w = if b then (Op.eqFields d xs ys fs).run P w else .ok false w := by
  rw [Op.eqFields, if_pos hn]
  simp only [Sem.run_bind, p, p', Result.andThen_ok, q]
  cases b <;> simp
def FieldsEq (P : Program) (w : World) (d : Nat) (C D : Array Value) : List (TypeId × Nat) → List Bool → Prop
  | [], [] => True
  | (t, o) :: fs, b :: bs => (∃ u v, (part t C o).run P w = .ok u w ∧ (part t D o).run P w = .ok v w ∧ (Op.equalIn d t u v).run P w = .ok b w) ∧ FieldsEq P w d C D fs bs
  | _, _ => False
theorem eqFields_all {P : Program} {w : World} {d : Nat} {C D : Array Value} : ∀ (fs : List Field) (l : List (TypeId × Nat)) (bs : List Bool), fs.map (fun f => (f.type, f.offset, f.name == "_")) = l.map (fun x => (x.1, x.2, false)) →
    FieldsEq P w d C D l bs → (Op.eqFields d C D fs).run P w = .ok (bs.all id) w
  | [], [], [], _, _ => rfl
  | [], [], _ :: _, _, h => h.elim
  | [], _ :: _, _, h, _ => by simp at h
  | _ :: _, [], _, h, _ => by simp at h
  | _ :: _, _ :: _, [], _, h => h.elim
  | f :: fs, (t, o) :: l, b :: bs, h, hb => by
    simp only [List.map_cons, List.cons.injEq, Prod.mk.injEq, beq_eq_false_iff_ne] at h
    obtain ⟨⟨rfl, rfl, hn⟩, h⟩ := h
    obtain ⟨⟨u, v, p, p', q⟩, hr⟩ := hb
    rw [eqFields_bool hn p p' q, eqFields_all fs l bs h hr]
    cases b <;> simp
theorem part_rowx (ty : TypeId) (n off : Nat) (xs ys zs : List Value) (h : RowTy Try.prog ty n) (hx : xs.length = off) (hy : ys.length = n) (w : World) : (part ty (xs ++ (ys ++ zs)).toArray off).run Try.prog w = .ok (.agg ys.toArray) w := by
  obtain ⟨h1, h2⟩ := h
  cases hu : Try.prog.underlying ty with
  | none => rw [hu] at h1; cases h1
  | some d =>
    rw [hu] at h1
    cases hi : Try.prog.info? ty with
    | none => rw [hi] at h2; cases h2
    | some i =>
      have hs : i.size = n := by simpa [hi] using h2
      have hagg : (isAgg ty).run Try.prog w = .ok true w := by
        unfold isAgg
        rw [Sem.run_bind, run_underlying hu w]
        cases d <;> simp_all
      unfold part
      simp [hagg, sizeOf, typeInfo, hi, hs]
      subst hx
      subst hy
      simp
theorem eql_hash (a b : List UInt8) (ha : a.length = 32) (hb : b.length = 32) (d : Nat) (w : World) : (Op.equalIn (d + 2) 35 (.agg (a.map by8).toArray) (.agg (b.map by8).toArray)).run Try.prog w = .ok (decide (a = b)) w := by
  have h := run_equalIn_bytes (P := Try.prog) w d 35 5 32 Try.underlying35 Try.underlying5 u8_size1 a b ha hb
  rw [show decide (a = b) = (a == b) by rw [Bool.eq_iff_iff]; simp]
  exact h
theorem eql_int (y z : Int) (d : Nat) (w : World) : (Op.equalIn (d + 1) 3 (.int .i64 y) (.int .i64 z)).run Try.prog w = .ok (decide (y = z)) w := by
  have h := run_equalIn_int (P := Try.prog) w d 3 .i64 .i64 y z Try.underlying3
  rw [show decide (y = z) = (y == z) by rw [Bool.eq_iff_iff]; simp]
  exact h
theorem eql_u64 (y z : Int) (d : Nat) (w : World) : (Op.equalIn (d + 1) 43 (.int .u64 y) (.int .u64 z)).run Try.prog w = .ok (decide (y = z)) w := by
  have h := run_equalIn_int (P := Try.prog) w d 43 .u64 .u64 y z Try.underlying43
  rw [show decide (y = z) = (y == z) by rw [Bool.eq_iff_iff]; simp]
  exact h
theorem part_int (off : Nat) (cs : Array Value) (v : Value) (hv : cs[off]? = some v) (w : World) : (part 3 cs off).run Try.prog w = .ok v w := run_part_plain w (by kernel_rfl) hv
theorem part_u64 (off : Nat) (cs : Array Value) (v : Value) (hv : cs[off]? = some v) (w : World) : (part 43 cs off).run Try.prog w = .ok v w := run_part_plain w (by kernel_rfl) hv
theorem eql_of {ty : TypeId} {d : Nat} {C D : Array Value} {w : World} {l : List (TypeId × Nat)} {bs : List Bool} (e : (Op.equalIn (d + 1) ty (.agg C) (.agg D)).run Try.prog w = (Op.eqFields d C D (Try.prog.fieldsOf ty).toList).run Try.prog w)
    (hfs : (Try.prog.fieldsOf ty).toList.map (fun f => (f.type, f.offset, f.name == "_")) = l.map (fun x => (x.1, x.2, false))) (hb : FieldsEq Try.prog w d C D l bs) : (Op.equalIn (d + 1) ty (.agg C) (.agg D)).run Try.prog w = .ok (bs.all id) w := by
  rw [e]
  exact eqFields_all _ l bs hfs hb
theorem eql_name (a b a' b' : Int) (d : Nat) (w : World) : (Op.equalIn (d + 2) 23 (.agg #[.int .i64 a, .int .i64 b]) (.agg #[.int .i64 a', .int .i64 b'])).run Try.prog w = .ok (decide (a = a') && decide (b = b')) w := by
  have h := eql_of (l := [(3, 0), (3, 1)]) (run_equalIn_struct w (d + 1) 23 #[.int .i64 a, .int .i64 b] #[.int .i64 a', .int .i64 b'] (by kernel_rfl) (by kernel_rfl)) (by kernel_rfl)
    (bs := [decide (a = a'), decide (b = b')]) ⟨⟨_, _, part_int 0 _ _ rfl w, part_int 0 _ _ rfl w, eql_int a a' d w⟩, ⟨_, _, part_int 1 _ _ rfl w, part_int 1 _ _ rfl w, eql_int b b' d w⟩, trivial⟩
  rw [h]
  simp
theorem eql_sig (a b a' b' : Int) (d : Nat) (w : World) : (Op.equalIn (d + 2) 37 (.agg #[.int .i64 a, .int .i64 b]) (.agg #[.int .i64 a', .int .i64 b'])).run Try.prog w = .ok (decide (a = a') && decide (b = b')) w := by
  have h := eql_of (l := [(3, 0), (3, 1)]) (run_equalIn_struct w (d + 1) 37 #[.int .i64 a, .int .i64 b] #[.int .i64 a', .int .i64 b'] (by kernel_rfl) (by kernel_rfl)) (by kernel_rfl)
    (bs := [decide (a = a'), decide (b = b')]) ⟨⟨_, _, part_int 0 _ _ rfl w, part_int 0 _ _ rfl w, eql_int a a' d w⟩, ⟨_, _, part_int 1 _ _ rfl w, part_int 1 _ _ rfl w, eql_int b b' d w⟩, trivial⟩
  rw [h]
  simp
def Wst.eqB (x y : Wst) : Bool := [decide (x.r = y.r), (decide (x.c = y.c) && decide (x.s = y.s)), decide (x.h = y.h), decide ((x.t : Int) = (y.t : Int)), (decide (x.b = y.b) && decide (x.m = y.m))].all id
theorem Wst.eqB_iff (x y : Wst) : x.eqB y = true ↔ x = y := by
  obtain ⟨_, _, _, _, _, _, _⟩ := x
  obtain ⟨_, _, _, _, _, _, _⟩ := y
  simp [Wst.eqB, Wst.mk.injEq, and_assoc]
  (try omega)
set_option maxHeartbeats 1000000 in
theorem eql_Wst (x y : Wst) (hx : x.h.length = 32) (hy : y.h.length = 32) (w : World) : (Op.equalIn 10000 45 (.agg x.cells.toArray) (.agg y.cells.toArray)).run Try.prog w = .ok (x.eqB y) w :=
  eql_of (d := 9999) (C := x.cells.toArray) (D := y.cells.toArray) (l := [(3, 0), (23, 1), (35, 3), (43, 35), (37, 36)]) (run_equalIn_struct w 9999 45 x.cells.toArray y.cells.toArray (by kernel_rfl) (by kernel_rfl)) (by kernel_rfl)
    (bs := [decide (x.r = y.r), (decide (x.c = y.c) && decide (x.s = y.s)), decide (x.h = y.h), decide ((x.t : Int) = (y.t : Int)), (decide (x.b = y.b) && decide (x.m = y.m))])
    ⟨⟨_, _, part_int 0 _ _ (show x.cells.toArray[0]? = some (.int .i64 x.r) from rfl) w, part_int 0 _ _ (show y.cells.toArray[0]? = some (.int .i64 y.r) from rfl) w, eql_int _ _ 9998 w⟩,
      ⟨_, _, (part_rowx 23 2 1 [.int .i64 x.r] [.int .i64 x.c, .int .i64 x.s] ([] ++ (x.h.map by8 ++ [.int .u64 (x.t : Int), .int .i64 x.b, .int .i64 x.m])) row_name rfl rfl w), (part_rowx 23 2 1 [.int .i64 y.r] [.int .i64 y.c, .int .i64 y.s] ([] ++ (y.h.map by8 ++ [.int .u64 (y.t : Int), .int .i64 y.b, .int .i64 y.m])) row_name rfl rfl w), eql_name _ _ _ _ 9997 w⟩,
      ⟨_, _, (part_rowx 35 32 3 [.int .i64 x.r, .int .i64 x.c, .int .i64 x.s] (x.h.map by8) [.int .u64 (x.t : Int), .int .i64 x.b, .int .i64 x.m] row_hash rfl (by rw [List.length_map]; exact hx) w), (part_rowx 35 32 3 [.int .i64 y.r, .int .i64 y.c, .int .i64 y.s] (y.h.map by8) [.int .u64 (y.t : Int), .int .i64 y.b, .int .i64 y.m] row_hash rfl (by rw [List.length_map]; exact hy) w), eql_hash x.h y.h hx hy 9997 w⟩,
      ⟨_, _, part_u64 35 _ _ (show x.cells.toArray[35]? = some (.int .u64 (x.t : Int)) by rw [List.getElem?_toArray]; exact post_cell [.int .i64 x.r, .int .i64 x.c, .int .i64 x.s] (x.h.map by8) [.int .u64 (x.t : Int), .int .i64 x.b, .int .i64 x.m] (by rw [List.length_map]; exact hx) 0 rfl) w, part_u64 35 _ _ (show y.cells.toArray[35]? = some (.int .u64 (y.t : Int)) by rw [List.getElem?_toArray]; exact post_cell [.int .i64 y.r, .int .i64 y.c, .int .i64 y.s] (y.h.map by8) [.int .u64 (y.t : Int), .int .i64 y.b, .int .i64 y.m] (by rw [List.length_map]; exact hy) 0 rfl) w, eql_u64 _ _ 9998 w⟩,
      ⟨_, _, (show (part 37 x.cells.toArray 36).run Try.prog w = .ok (.agg [.int .i64 x.b, .int .i64 x.m].toArray) w by rw [show x.cells = ([.int .i64 x.r, .int .i64 x.c, .int .i64 x.s] ++ (x.h.map by8 ++ [.int .u64 (x.t : Int)])) ++ ([.int .i64 x.b, .int .i64 x.m] ++ []) by simp [Wst.cells]]; exact part_rowx 37 2 36 _ _ _ row_sig (by simp [hx]) rfl w), (show (part 37 y.cells.toArray 36).run Try.prog w = .ok (.agg [.int .i64 y.b, .int .i64 y.m].toArray) w by rw [show y.cells = ([.int .i64 y.r, .int .i64 y.c, .int .i64 y.s] ++ (y.h.map by8 ++ [.int .u64 (y.t : Int)])) ++ ([.int .i64 y.b, .int .i64 y.m] ++ []) by simp [Wst.cells]]; exact part_rowx 37 2 36 _ _ _ row_sig (by simp [hy]) rfl w), eql_sig _ _ _ _ 9997 w⟩, trivial⟩
def Wvt.eqB (x y : Wvt) : Bool := [decide (x.k = y.k), decide (x.e = y.e), decide (x.r = y.r), decide (x.p = y.p), decide (x.h = y.h), (decide (x.b = y.b) && decide (x.m = y.m))].all id
theorem Wvt.eqB_iff (x y : Wvt) : x.eqB y = true ↔ x = y := by
  obtain ⟨_, _, _, _, _, _, _⟩ := x
  obtain ⟨_, _, _, _, _, _, _⟩ := y
  simp [Wvt.eqB, Wvt.mk.injEq, and_assoc]
  (try omega)
def Wdn.eqB (x y : Wdn) : Bool := [decide (x.r = y.r), decide (x.i = y.i), (decide (x.b = y.b) && decide (x.m = y.m))].all id
theorem Wdn.eqB_iff (x y : Wdn) : x.eqB y = true ↔ x = y := by
  obtain ⟨_, _, _, _⟩ := x
  obtain ⟨_, _, _, _⟩ := y
  simp [Wdn.eqB, Wdn.mk.injEq, and_assoc]
  (try omega)
end Go.Proofs.Ytlkhfhhaallhgaa

namespace Go.Proofs.Ytlkhfhhaallhgaa
open Go.RowKit
set_option maxRecDepth 100000

theorem wireQ_any (f k : Int) (hf : -1000 ≤ f ∧ f ≤ 1000) (w : World) : Calls Try.prog 25 #[.agg #[.int .i64 f, .int .i64 k]] w fun e w' => e = .returned (.int .i64 (2 * f + 1)) ∧ Fr [] w w' := by
  go_enter Try.func25, Try.ntmps25
  go_wp2
  go_ret
  exact ⟨rfl, (Fr.refl [] w).alloc _⟩
def confB (f k : Int) : Bool := decide (1 ≤ f ∧ f ≤ 21 ∧ 1 ≤ k ∧ k ≤ 100)
theorem row_cf : RowTy Try.prog 27 2 := ⟨by kernel_rfl, by kernel_rfl⟩
end Go.Proofs.Ytlkhfhhaallhgaa

namespace Go.Proofs.Ytlkhfhhaallhgaa
open Go.RowKit
set_option maxRecDepth 100000

def hh1 (u : UInt8) : List UInt8 := u :: List.replicate 31 0
def Wst.small (x : Wst) : Wst := ⟨x.r % 4, x.c % 3, x.s % 3, hh1 (x.h.getD 0 0 % 2), x.t % 3, 0, 0⟩
def Wvt.small (x : Wvt) : Wvt := ⟨1 + x.k % 2, x.e % 3, x.r % 3, x.p % 4, hh1 (x.h.getD 0 0 % 2), 0, 0⟩
theorem built_nm (c s : Int) : Try.prog.built 23 [(0, .int .i64 c), (1, .int .i64 s)] = some #[.int .i64 c, .int .i64 s] := by kernel_rfl
theorem built_h1 (u : UInt8) : Try.prog.built 35 [(0, by8 u)] = some ((hh1 u).map by8).toArray := by kernel_rfl
theorem built_st (r c s : Int) (u : UInt8) (t : Nat) : Try.prog.built 45 [(0, .int .i64 r), (1, .agg #[.int .i64 c, .int .i64 s]), (2, .agg ((hh1 u).map by8).toArray), (3, .int .u64 (t : Int))] = some (Wst.cells ⟨r, c, s, hh1 u, t, 0, 0⟩).toArray := by kernel_rfl
def zeroSt : Array Value := (Wst.cells ⟨0, 0, 0, List.replicate 32 0, 0, 0, 0⟩).toArray
def zeroVt : Array Value := (Wvt.cells ⟨0, 0, 0, 0, List.replicate 32 0, 0, 0⟩).toArray

-- votes
end Go.Proofs.Ytlkhfhhaallhgaa

namespace Go.Proofs.Ytlkhfhhaallhgaa
set_option maxRecDepth 100000
open Go.RowKit

def ecells (e : Ent) : List Value := [.int .i64 e.1, .string ⟨e.2.toArray⟩]
/-- the document's book at block g -/
def RBk (w : World) (S : List Nat) (g : Nat) (l : List Ent) : Prop :=
  ∃ A c, S = g :: bk A ∧ Blk w g 67 #[.slice A l.length c] ∧ w.ownsRow 0 90 2 (.slice A l.length c) l.length (l.flatMap ecells)
theorem RBk.keep {w w' : World} {S T : List Nat} {g : Nat} {l : List Ent} (h : RBk w S g l) (hf : Fr T w w') (hn : ∀ x ∈ S, ¬ x ∈ T) : RBk w' S g l := by
  obtain ⟨A, c, rfl, h1, h2⟩ := h
  exact ⟨A, c, rfl, h1.keep hf (hn g (by simp)), own_keep h2 hf (fun x hx => hn x (by rw [bk_mem] at hx; simp [hx]))⟩
theorem RBk.lt {w : World} {S : List Nat} {g : Nat} {l : List Ent} (h : RBk w S g l) : ∀ x ∈ S, x < w.heap.size := by
  obtain ⟨A, c, rfl, h1, h2⟩ := h
  intro x hx
  simp at hx
  rcases hx with rfl | hx
  · exact h1.lt
  · exact own_lt h2 x (by rw [bk_mem]; exact hx)
theorem ecells_at {l : List Ent} {i : Nat} {e : Ent} (h : l[i]? = some e) : (l.flatMap ecells)[i * 2]? = some (.int .i64 e.1) ∧ (l.flatMap ecells)[i * 2 + 1]? = some (.string ⟨e.2.toArray⟩) := by
  induction l generalizing i with
  | nil => simp at h
  | cons a r ih =>
    rcases i with _ | i
    · simp at h
      subst h
      simp [ecells]
    · simp at h
      obtain ⟨h1, h2⟩ := ih h
      rw [show (i + 1) * 2 = i * 2 + 2 by omega]
      simp only [List.flatMap_cons, ecells, List.cons_append, List.nil_append, List.getElem?_cons_succ]
      exact ⟨h1, h2⟩
/-- where the entries lie -/
theorem RBk.cells {w : World} {S : List Nat} {g : Nat} {l : List Ent} (h : RBk w S g l) :
    ∃ A c, S = g :: bk A ∧ w.cell? ⟨g, 0, none⟩ = some (.slice A l.length c) ∧ ∀ i e, l[i]? = some e → ∃ gq, A = some ⟨gq, 0, none⟩ ∧ w.cell? ⟨gq, i * 2, none⟩ = some (.int .i64 e.1) ∧ w.cell? ⟨gq, i * 2 + 1, none⟩ = some (.string ⟨e.2.toArray⟩) := by
  obtain ⟨A, c, hS, h1, h2⟩ := h
  refine ⟨A, c, hS, by simpa using h1.cell 0, fun i e hi => ?_⟩
  have hl : i < l.length := (List.getElem?_eq_some_iff.1 hi).1
  obtain ⟨gq, cap, hv, _, _⟩ := h2.form (by omega)
  injection hv with hA
  subst hA
  have hc := h2.cells (g := gq) rfl
  have hadd : ∀ j, (⟨gq, 0, none⟩ : Addr).add j = ⟨gq, j, none⟩ := fun j => by unfold Addr.add; split <;> simp_all
  obtain ⟨e1, e2⟩ := ecells_at hi
  exact ⟨gq, rfl, by rw [← hadd]; exact hc _ _ e1, by rw [← hadd]; exact hc _ _ e2⟩

theorem rightB_at {l : List Ent} (hnd : l.Nodup) {x : Int} {t : List UInt8} {i : Nat} {e : Ent} (hi : l[i]? = some e) : rightB l x ((i : Int) + 1) t = decide (e = (x, t)) := by
  unfold rightB
  obtain ⟨hl, hg⟩ := List.getElem?_eq_some_iff.1 hi
  by_cases he : e = (x, t)
  · have hm : (x, t) ∈ l := by rw [← he, ← hg]; exact List.getElem_mem hl
    have hidx : l.idxOf (x, t) = i := by rw [← he, ← hg]; exact List.Nodup.idxOf_getElem hnd i hl
    rw [hidx]
    simp [hm, he]
  · rw [decide_eq_false he]
    simp only [Bool.and_eq_false_iff, decide_eq_false_iff_not]
    by_cases hm : (x, t) ∈ l
    · right
      have hlt : l.idxOf (x, t) < l.length := List.idxOf_lt_length_iff.2 hm
      have hge : l[l.idxOf (x, t)] = (x, t) := List.getElem_idxOf hlt
      have hne : l.idxOf (x, t) ≠ i := by
        intro h
        apply he
        rw [← hg, ← hge]
        simp only [h]
      simp
      omega
    · exact Or.inl hm
theorem rightB_out {l : List Ent} {x m : Int} {t : List UInt8} (h : m < 1 ∨ (l.length : Int) < m) : rightB l x m t = false := by
  unfold rightB
  by_cases hm : (x, t) ∈ l
  · have hlt : l.idxOf (x, t) < l.length := List.idxOf_lt_length_iff.2 hm
    simp only [Bool.and_eq_false_iff]
    right
    simp
    omega
  · simp [hm]

end Go.Proofs.Ytlkhfhhaallhgaa

namespace Go.Proofs.Ytlkhfhhaallhgaa
set_option maxRecDepth 100000
open Go.RowKit

/-- one cell of a block is stored -/
theorem wp_store_cell1 {P : Program} {op : Oper} {a : Act} {w : World} {K : Act → World → Prop} {Q : Exit → Act → World → Prop} (ty : TypeId) (x y : Operand) (ho : op.op = .store ty x y)
    (g i : Nat) (v : Value) (hx : a.eval x = .pointer (some ⟨g, i, none⟩)) (hy : a.eval y = v) (h1 : v.oneCell' = true) (t : TypeId) (cs : Array Value) (hb : Blk w g t cs) (hi : i < cs.size) (hsz : (P.info? ty).map (·.size) = some 1)
    (h : K (a.put op.dst undef) (w.setCell ⟨g, i, none⟩ v)) : op.wp P a w K Q := by
  subst hy
  have hc := hb.cell i
  rw [Array.getElem?_eq_getElem hi] at hc
  have := run_storeCells_cells (P := P) g i [a.eval y] 0 w (fun j hj => by simp at hj; subst hj; simpa using (by rw [hc]; rfl : (w.cell? ⟨g, i, none⟩).isSome = true)) (fun j hj => by simp at hj; subst hj; simpa using hb.frozen i) (fun u hu => by simp at hu; subst hu; exact h1)
  have hcl : (a.eval y).cells = #[a.eval y] := by cases hv : a.eval y <;> first | rfl | (rw [hv] at h1; cases h1)
  have hrun : (storeVar ty ⟨g, i, none⟩ (a.eval y)).run P w = .ok () (w.setCell ⟨g, i, none⟩ (a.eval y)) := by
    cases hq : P.info? ty with
    | none => simp [hq] at hsz
    | some j =>
      have hs : j.size = 1 := by simpa [hq] using hsz
      simp only [Nat.add_zero] at this
      simp [storeVar, sizeOf, typeInfo, hq, hcl, hs, this, World.setCells]
  unfold Oper.wp execOp
  simp only [ho, hx, Instr.storeAt, Instr.sureAddr, Sem.run_bind, Sem.run_pure, Result.andThen_ok, hrun]
  exact h
theorem wp_skip1 {P : Program} {Q : Exit → Act → World → Prop} {a : Act} {w : World} {o : Oper} {K : Act → World → Prop} {w' : World} (he : (execOp a.eval o).run P w = .ok .skip w') (h : K (a.put o.dst undef) w') : Oper.wp P o a w K Q := by
  unfold Oper.wp
  rw [he, Oper.upon_skip]
  exact h
theorem results_ct {P : Program} {fn : Func} {p u : Tmp} {ty : TypeId} (h : fn.results = #[.cell p ty, .tmp u]) (tmps : Array Value) (w : World) (g : Nat) (t : TypeId) (cs : Array Value) (fr : Nat × Nat) (d : TypeDesc) (b : Value)
    (hp : tmps.getD p undef = .pointer (some ⟨g, 0, none⟩)) (hb : tmps.getD u undef = b) (hg : w.heap[g]? = some (.cells cs t fr))
    (hu : P.underlying ty = some d) (hd : (match d with | .struct _ | .array _ _ => true | _ => false) = true) (hi : (P.info? ty).map (·.size) = some cs.size) :
    (results fn tmps).run P w = .ok (.tuple #[.agg cs, b]) w := by
  rw [results_cell_tmp h, hp, hb]
  simp [asAddr, Result.andThen, run_loadVar_row w g t ty cs fr d hg hu hd hi]
theorem results_ctt {P : Program} {fn : Func} {p u v : Tmp} {ty : TypeId} (h : fn.results = #[.cell p ty, .tmp u, .tmp v]) (tmps : Array Value) (w : World) (g : Nat) (t : TypeId) (cs : Array Value) (fr : Nat × Nat) (d : TypeDesc) (b c : Value)
    (hp : tmps.getD p undef = .pointer (some ⟨g, 0, none⟩)) (hb : tmps.getD u undef = b) (hc : tmps.getD v undef = c) (hg : w.heap[g]? = some (.cells cs t fr))
    (hu : P.underlying ty = some d) (hd : (match d with | .struct _ | .array _ _ => true | _ => false) = true) (hi : (P.info? ty).map (·.size) = some cs.size) :
    (results fn tmps).run P w = .ok (.tuple #[.agg cs, b, c]) w := by
  have hl := run_loadVar_row w g t ty cs fr d hg hu hd hi
  have e : (results fn tmps).run P w = ((asAddr (tmps.getD p undef)).run P w).andThen fun a w₁ => ((loadVar ty a).run P w₁).andThen fun v0 w₂ => .ok (.tuple #[v0, tmps.getD u undef, tmps.getD v undef]) w₂ := by
    simp only [results, h]
    simp [Sem.run_bind, Result.andThen]
  rw [e, hp, hb, hc]
  simp [asAddr, Result.andThen, hl]
/-- keys of one type: as values, as literals, which may be -/
structure KeyKind (P : Program) (k : TypeId) (κ : Type) where
  val : κ → Value
  lit : κ → Lit
  ok : κ → Prop
  keyed : Maps.Keyed P k
  key : ∀ x, ok x → keyOf P k (val x) = some (lit x)
  inj : ∀ x y, val x = val y → x = y
section
variable {P : Program} {k : TypeId} {κ : Type}
theorem KeyKind.lit_inj (K : KeyKind P k κ) {x y : κ} (hx : K.ok x) (hy : K.ok y) (h : K.lit x = K.lit y) : x = y :=
  K.inj _ _ (K.keyed.inj (K.key x hx) (h ▸ K.key y hy))
theorem KeyKind.lit_key (K : KeyKind P k κ) {x : κ} (hx : K.ok x) : WideAt.IsKeyLit (K.lit x) := K.keyed.key (K.key x hx)
/-- any value, as it is -/
def heldElem : Value → Option (DataW Value × List MemPlace) := fun v => some (.held v, [])
variable [BEq κ]
/-- the map's datum has just these keys, with these values -/
structure Tab (K : KeyKind P k κ) (D : DataW Value) (l : List (κ × Value)) : Prop where
  tidy : Maps.Tidy D
  ok : ∀ e ∈ l, K.ok e.1
  size : Maps.size D = l.length
  has : ∀ x, K.ok x → Maps.has D (K.lit x) = (l.lookup x).isSome
  val : ∀ x v, K.ok x → l.lookup x = some v → ∀ z, D.atKey (K.lit x) z = .held v
theorem Tab.nil (K : KeyKind P k κ) : Tab K (.map [] : DataW Value) [] :=
  ⟨Maps.tidy_empty, by simp, rfl, fun x _ => by simp [Maps.has_eq], by simp⟩
theorem lookup_other [LawfulBEq κ] {l : List (κ × Value)} {x y : κ} {v : Value} (h : y ≠ x) : (l ++ [(x, v)]).lookup y = l.lookup y := by
  rw [List.lookup_append]
  have : List.lookup y [(x, v)] = none := by
    have h1 : (y == x) = false := by simpa using h
    simp [List.lookup, h1]
  rw [this, Option.or_none]
theorem lookup_same [LawfulBEq κ] {l : List (κ × Value)} {x : κ} {v : Value} (h : l.lookup x = none) : (l ++ [(x, v)]).lookup x = some v := by
  rw [List.lookup_append, h]
  simp [List.lookup]
theorem Tab.snoc [LawfulBEq κ] {K : KeyKind P k κ} {D : DataW Value} {l : List (κ × Value)} {x : κ} {v : Value} (h : Tab K D l) (hx : K.ok x) (hn : l.lookup x = none) :
    Tab K (D.put (K.lit x) (.held v)) (l ++ [(x, v)]) := by
  have hne : ∀ y, K.ok y → y ≠ x → K.lit y ≠ K.lit x := fun y hy hh hk => hh (K.lit_inj hy hx hk)
  refine ⟨h.tidy.put (K.lit_key hx) _, ?_, ?_, ?_, ?_⟩
  · intro e he
    rcases List.mem_append.1 he with he | he
    · exact h.ok e he
    · rw [List.mem_singleton.1 he]; exact hx
  · rw [Maps.size_put h.tidy, h.has x hx, h.size, hn]
    simp
  · intro y hy
    by_cases hyx : y = x
    · subst hyx
      rw [Maps.has_put_same h.tidy.isMap (K.lit_key hy), lookup_same hn]
      rfl
    · rw [Maps.has_put_other (hne y hy hyx), h.has y hy, lookup_other hyx]
  · intro y u hy hl z
    by_cases hyx : y = x
    · subst hyx
      rw [lookup_same hn] at hl
      cases hl
      rw [Maps.atKey_put_same h.tidy.isMap (K.lit_key hy)]
    · rw [lookup_other hyx] at hl
      rw [Maps.atKey_put_other (hne y hy hyx)]
      exact h.val y u hy hl z
theorem tab_fr {w w' : World} {S : List Nat} {b n : Nat} {D : DataW Value} (h : w.ownsMap P k heldElem b n D) (hf : Fr S w w') (hn : ¬ b ∈ S) : w'.ownsMap P k heldElem b n D := by
  obtain ⟨es, clock, hb, r⟩ := h
  exact ⟨es, clock, hf.heap hb hn, r⟩
theorem Fr.turnedT {S : List Nat} {a w w' : World} {b : Nat} (h : Fr S a w) (hm : w.mapTurned w' b) (hb : b < a.heap.size → b ∈ S) : Fr S a w' :=
  h.grown hm.grown (fun k hk => by cases hk; exact hb)
/-- what a look-up tells: the value, or the zero value -/
theorem tab_look {K : KeyKind P k κ} {D : DataW Value} {l : List (κ × Value)} {b n : Nat} {w : World} {t e : TypeId} (h2 : w.ownsMap P k heldElem b n D) (h3 : Tab K D l) (ht : P.underlying t = some (.map k e))
    {z : Value} (hz : (zeroValue e).run P w = .ok z w) {x : κ} (hx : K.ok x) :
    (Instr.lookup t (.map (some b)) (K.val x) true).run P w = .ok (.tuple #[(l.lookup x).getD z, .bool (l.lookup x).isSome]) w := by
  obtain ⟨v, ps, hrun, hv⟩ := h2.look_ok K.keyed ht hz (show heldElem z = some (.held z, []) from rfl) (K.key x hx)
  rw [hrun, h3.has x hx]
  have hv' : DataW.held v = D.atKey (K.lit x) (.held z) := by
    have := hv
    simp only [heldElem, Option.some.injEq, Prod.mk.injEq] at this
    exact this.1
  rcases hl : l.lookup x with _ | u
  · have hh : Maps.has D (K.lit x) = false := by rw [h3.has x hx, hl]; rfl
    rw [Maps.atKey_of_not_has hh] at hv'
    cases hv'
    rfl
  · rw [h3.val x u hx hl] at hv'
    cases hv'
    rfl
theorem tab_look1 {K : KeyKind P k κ} {D : DataW Value} {l : List (κ × Value)} {b n : Nat} {w : World} {t e : TypeId} (h2 : w.ownsMap P k heldElem b n D) (h3 : Tab K D l) (ht : P.underlying t = some (.map k e))
    {z : Value} (hz : (zeroValue e).run P w = .ok z w) {x : κ} (hx : K.ok x) :
    (Instr.lookup t (.map (some b)) (K.val x) false).run P w = .ok ((l.lookup x).getD z) w := by
  obtain ⟨v, ps, hrun, hv⟩ := h2.lookup K.keyed ht hz (show heldElem z = some (.held z, []) from rfl) (K.key x hx)
  rw [hrun]
  have hv' : DataW.held v = D.atKey (K.lit x) (.held z) := by
    have := hv
    simp only [heldElem, Option.some.injEq, Prod.mk.injEq] at this
    exact this.1
  rcases hl : l.lookup x with _ | u
  · have hh : Maps.has D (K.lit x) = false := by rw [h3.has x hx, hl]; rfl
    rw [Maps.atKey_of_not_has hh] at hv'
    cases hv'
    rfl
  · rw [h3.val x u hx hl] at hv'
    cases hv'
    rfl
/-- a map at block b -/
def MapAt (K : KeyKind P k κ) (w : World) (b : Nat) (l : List (κ × Value)) : Prop := ∃ D, w.ownsMap P k heldElem b l.length D ∧ Tab K D l
theorem MapAt.keep {K : KeyKind P k κ} {w w' : World} {S : List Nat} {b : Nat} {l : List (κ × Value)} (h : MapAt K w b l) (hf : Fr S w w') (hn : ¬ b ∈ S) : MapAt K w' b l := by
  obtain ⟨D, h1, h2⟩ := h
  exact ⟨D, tab_fr h1 hf hn, h2⟩
theorem MapAt.lt {K : KeyKind P k κ} {w : World} {b : Nat} {l : List (κ × Value)} (h : MapAt K w b l) : b < w.heap.size := by
  obtain ⟨D, h1, h2⟩ := h
  exact h1.lt
theorem MapAt.ne {K : KeyKind P k κ} {w : World} {b g : Nat} {l : List (κ × Value)} {t : TypeId} {cs : Array Value} (h : MapAt K w b l) (hb : Blk w g t cs) : g ≠ b := by
  rintro rfl
  obtain ⟨D, ⟨es, clock, h1, _⟩, _⟩ := h
  unfold Blk at hb
  rw [h1] at hb
  cases hb
theorem MapAt.drewN {K : KeyKind P k κ} {w : World} {b : Nat} {l : List (κ × Value)} (h : MapAt K w b l) (n : Nat) : MapAt K (w.drewN n) b l := h
theorem MapAt.drew {K : KeyKind P k κ} {w : World} {b : Nat} {l : List (κ × Value)} (h : MapAt K w b l) : MapAt K w.drew b l := h
theorem MapAt.made (K : KeyKind P k κ) (w : World) : MapAt K (w.alloc (.map #[] 0)) w.heap.size [] := ⟨_, World.ownsMap_made _ _ _ _, Tab.nil K⟩
theorem MapAt.look {K : KeyKind P k κ} {w : World} {b : Nat} {l : List (κ × Value)} (h : MapAt K w b l) {t e : TypeId} (ht : P.underlying t = some (.map k e))
    {z : Value} (hz : ∀ w, (zeroValue e).run P w = .ok z w) {x : κ} (hx : K.ok x) :
    (Instr.lookup t (.map (some b)) (K.val x) true).run P w = .ok (.tuple #[(l.lookup x).getD z, .bool (l.lookup x).isSome]) w := by
  obtain ⟨D, h1, h2⟩ := h
  exact tab_look h1 h2 ht (hz w) hx
theorem MapAt.look1 {K : KeyKind P k κ} {w : World} {b : Nat} {l : List (κ × Value)} (h : MapAt K w b l) {t e : TypeId} (ht : P.underlying t = some (.map k e))
    {z : Value} (hz : ∀ w, (zeroValue e).run P w = .ok z w) {x : κ} (hx : K.ok x) :
    (Instr.lookup t (.map (some b)) (K.val x) false).run P w = .ok ((l.lookup x).getD z) w := by
  obtain ⟨D, h1, h2⟩ := h
  exact tab_look1 h1 h2 ht (hz w) hx
theorem MapAt.len {K : KeyKind P k κ} {w : World} {b : Nat} {l : List (κ × Value)} (h : MapAt K w b l) {t e : TypeId} (ht : P.underlying t = some (.map k e)) (ty : TypeId) :
    (Builtin.len_ #[t] ty #[.map (some b)]).run P w = .ok (.int .i64 l.length) w := by
  obtain ⟨D, h1, h2⟩ := h
  rw [h1.len ht ty, h2.size]
theorem MapAt.store [LawfulBEq κ] {K : KeyKind P k κ} {w : World} {b : Nat} {l : List (κ × Value)} (h : MapAt K w b l) {t e : TypeId} (ht : P.underlying t = some (.map k e)) (hl : l.length < maxLen) {x : κ} (hx : K.ok x) (hn : l.lookup x = none) (v : Value) :
    ∃ w', (Instr.mapUpdate t (.map (some b)) (K.val x) v).run P w = .ok () w' ∧ MapAt K w' b (l ++ [(x, v)]) ∧ Fr [b] w w' := by
  obtain ⟨D, h1, h2⟩ := h
  obtain ⟨w', hrun, hown, hturn⟩ := h1.store K.keyed ht hl (K.key x hx) (show heldElem v = some (.held v, []) from rfl)
  refine ⟨w', hrun, ⟨_, ?_, h2.snoc hx hn⟩, (Fr.refl [b] w).turnedT hturn (by simp)⟩
  simpa using hown
/-- 'm[x], ... = v, ...': the entry is made first, its value stored later -/
theorem MapAt.entry [LawfulBEq κ] {K : KeyKind P k κ} (hlaw : Go.WideMaps.KeyLaw P k) {w : World} {b : Nat} {l : List (κ × Value)} (h : MapAt K w b l) {t e : TypeId} (ht : P.underlying t = some (.map k e)) (hl : l.length < maxLen) {z : Value} (hz : ∀ u : World, (zeroValue e).run P u = .ok z u)
    {x : κ} (hx : K.ok x) (hn : l.lookup x = none) :
    ∃ v0 st w1, (Instr.mapEntry t (.map (some b)) (K.val x)).run P w = .ok (.tuple #[v0, goInt st]) w1 ∧ Fr [b] w w1 ∧ ∀ (w2 : World) (v : Value), w2.heap[b]? = w1.heap[b]? →
      ∃ w3, (Instr.entryStore t (.map (some b)) (goInt st) v).run P w2 = .ok () w3 ∧ MapAt K w3 b (l ++ [(x, v)]) ∧ Fr [b] w2 w3 := by
  have hall := fun v => h.store ht hl hx hn v
  obtain ⟨D, ⟨es, clock, hb, F, hs, hD⟩, h2⟩ := h
  obtain ⟨v0, st, es1, clock1, hrun, _, hst⟩ := Go.WideElems.entry_then_store hlaw ht hz hb F (K.key x hx)
  refine ⟨v0, st, _, hrun, ⟨rfl, rfl, rfl, by simp [ChangeMaps.setBlock], fun i _ hi => Go.ChangeMaps.heap_setBlock_other hb _ (by simpa using hi)⟩, fun w2 v hw2 => ?_⟩
  rw [Go.ChangeMaps.heap_setBlock_same hb] at hw2
  obtain ⟨es', clock', h3, h4⟩ := hst w2 v hw2
  obtain ⟨w', hrun', hmap, _⟩ := hall v
  rw [h4] at hrun'
  cases hrun'
  refine ⟨_, h3, ?_, ⟨rfl, rfl, rfl, by simp [ChangeMaps.setBlock], fun i _ hi => Go.ChangeMaps.heap_setBlock_other hw2 _ (by simpa using hi)⟩⟩
  obtain ⟨D', ⟨es2, clock2, hb2, r⟩, h5⟩ := hmap
  rw [Go.ChangeMaps.heap_setBlock_same hb] at hb2
  exact ⟨D', ⟨es2, clock2, (Go.ChangeMaps.heap_setBlock_same hw2 _).trans hb2, r⟩, h5⟩
/-- a block that is as this one is such a map too (maps.Clone) -/
theorem MapAt.raw {K : KeyKind P k κ} {w : World} {b : Nat} {l : List (κ × Value)} (h : MapAt K w b l) : ∃ es clock, w.heap[b]? = some (.map es clock) ∧ ∀ w' b', w'.heap[b']? = some (.map es clock) → MapAt K w' b' l := by
  obtain ⟨D, ⟨es, clock, hb, r⟩, h2⟩ := h
  exact ⟨es, clock, hb, fun w' b' hb' => ⟨D, ⟨es, clock, hb', r⟩, h2⟩⟩
end
end Go.Proofs.Ytlkhfhhaallhgaa

namespace Go.Proofs.Ytlkhfhhaallhgaa
open Go.RowKit
set_option maxRecDepth 100000

theorem cebook_ex (w : World) : Calls Try.prog 18 #[] w fun e w' => ∃ S g, e = .returned (.pointer (some ⟨g, 0, none⟩)) ∧ Bok w' S g [] ∧ Fr [] w w' ∧ ∀ x ∈ S, w.heap.size ≤ x :=
  (new_any w).mono fun e w' ⟨he, hb, hf⟩ => ⟨_, _, he, hb, hf, by simp⟩
theorem built_bks (p q : Option Addr) : Try.prog.built 31 [(0, .pointer p), (1, .pointer q)] = some #[.pointer p, .pointer q] := by kernel_rfl
set_option maxHeartbeats 2000000 in
theorem cenew_any (w : World) : Calls Try.prog 7 #[] w fun e w' => ∃ Sb gb gr, e = .returned (.tuple #[.agg #[.pointer (some ⟨gb, 0, none⟩), .pointer (some ⟨gr, 0, none⟩)], .bool true]) ∧ Bok w' Sb gb [] ∧ RBk w' [gr] gr [] ∧ Fr [] w w' ∧ (∀ x ∈ Sb, w.heap.size ≤ x) ∧ w.heap.size ≤ gr ∧ ¬ gr ∈ Sb := by
  have hb0 : Blk (w.alloc (Obj.cells #[.pointer none, .pointer none] 31)) w.heap.size 31 #[.pointer none, .pointer none] := Blk.new _ _ _
  have hf0 : Fr [] w (w.alloc (Obj.cells #[.pointer none, .pointer none] 31)) := (Fr.refl [] w).alloc _
  have HB0 := Lib.hid hb0
  have HF0 := Lib.hid hf0
  clear hb0 hf0
  go_enter Try.func7, Try.ntmps7
  go_upto_region 1 with (fail)
  change Code.wp _ _ _ _ (w.alloc (Obj.cells #[.pointer none, .pointer none] 31))
  have HS0 : Hid (w.heap.size < (w.alloc (Obj.cells #[.pointer none, .pointer none] 31)).heap.size) := Lib.hid HB0.out.lt
  generalize w.alloc (Obj.cells #[.pointer none, .pointer none] 31) = wa at *
  go_wp2_with fail
  refine (cebook_ex wa).mono ?_
  rintro e w1 ⟨Sb, gb, rfl, hb1, hf1, hn1⟩
  have HB1 := Lib.hid hb1
  have HF1 := Lib.hid hf1
  have HN1 := Lib.hid hn1
  have HB01 := Lib.hid (HB0.out.keep hf1 (by simp))
  clear hb1 hf1 hn1
  have hnb : Hid (Bok (w1.alloc (Obj.cells #[.slice none 0 0] 67)) Sb gb []) := Lib.hid (HB1.out.keep ((Fr.refl [] w1).alloc _) (by simp))
  go_wp2_with (first
    | (refine wpList_builtg rfl 31 _ rfl _ _ (built_bks _ _) rfl ?_)
    | (refine wpList_store_blk rfl 31 _ _ rfl w.heap.size #[.pointer (some ⟨gb, 0, none⟩), .pointer (some ⟨w1.heap.size, 0, none⟩)] rfl rfl 31 #[.pointer none, .pointer none] (blk_alloc HB01.out) (by kernel_rfl) rfl (by kernel_rfl) ?_; intro w2 hb2 hf2))
  have hr1 : RBk (w1.alloc (Obj.cells #[.slice none 0 0] 67)) [w1.heap.size] w1.heap.size [] := ⟨none, 0, rfl, Blk.new _ _ _, ⟨rfl, .inl ⟨rfl, rfl⟩⟩⟩
  have hs0 := HS0.out
  have hs1 := HF1.out.size
  have hn1 := HN1.out
  have hl1 := HB1.out.lt
  refine bodyPost_ret (v := .tuple #[.agg #[.pointer (some ⟨gb, 0, none⟩), .pointer (some ⟨w1.heap.size, 0, none⟩)], .bool true]) (results_ct Try.results7 _ _ w.heap.size 31 _ _ _ (.bool true) rfl rfl hb2 Try.underlying31 rfl (by kernel_rfl)) rfl ⟨Sb, gb, w1.heap.size, rfl, hnb.out.keep hf2 (fun x hx hm => by have := hn1 x hx; simp at hm; omega), hr1.keep hf2 (fun x hx hm => by simp at hx hm; omega), ((HF0.out.and HF1.out (by simp)).and ((Fr.refl [] w1).alloc _) (by simp)).and hf2 (by simp), fun x hx => by have := hn1 x hx; omega, by omega, fun hm => by have := hl1 _ hm; omega⟩
end Go.Proofs.Ytlkhfhhaallhgaa

namespace Go.Proofs.Ytlkhfhhaallhgaa
open Go.RowKit Go.Sort
set_option maxRecDepth 100000

theorem countP_split (l : List Int) (m : Int) : l.countP (fun x => decide (x ≤ m)) = l.countP (fun x => decide (x < m)) + l.countP (fun x => decide (x = m)) := by
  induction l with
  | nil => rfl
  | cons a l ih =>
    simp only [List.countP_cons, ih]
    by_cases h1 : a < m
    · have h2 : a ≤ m := by omega
      have h3 : ¬ a = m := by omega
      simp [h1, h2, h3]; omega
    · by_cases h3 : a = m
      · subst h3; simp; omega
      · have h2 : ¬ a ≤ m := by omega
        simp [h1, h2, h3]
theorem countP_take {l : List Int} {k : Nat} {v : Int} (h : l[k]? = some v) (p : Int → Bool) : (l.take (k + 1)).countP p = (l.take k).countP p + if p v = true then 1 else 0 := by
  rw [List.take_add_one, h, List.countP_append]
  simp [List.countP_cons]

end Go.Proofs.Ytlkhfhhaallhgaa

namespace Go.Proofs.Ytlkhfhhaallhgaa
open Go.RowKit Go.Sort
set_option maxRecDepth 100000

theorem st_size {x : Wst} (hh : x.h.length = 32) : (Try.prog.info? 45).map (·.size) = some x.cells.toArray.size := by rw [List.size_toArray, Wst.len hh]; kernel_rfl
theorem Wst.all (x : Wst) : (x.cells.toArray.all (·.oneCell')) = true := all_oneCell_toArray x.one
def zStc : Wst := ⟨0, 0, 0, List.replicate 32 0, 0, 0, 0⟩
theorem zStc_len : zStc.cells.length = 38 := rfl
/-- the times of stamps -/
def tmL (l : List Wst) : List Int := l.map (fun x => (x.t : Int))
theorem Wce.cell37 {w : World} {g : Nat} {x : Wce} {t : TypeId} (h : Blk w g t x.cells.toArray) (hh : x.k.h.length = 32) : w.cell? ⟨g, 37, none⟩ = some (.slice x.A x.n x.d) := by
  rw [h.cell 37]
  have hl : x.k.cells.length = 37 := Wcm.len hh
  have e : x.cells[37]? = some (.slice x.A x.n x.d) := by
    unfold Wce.cells
    rw [List.getElem?_append_right (by omega), hl]
    rfl
  simpa using e
theorem Wst.cell35 {x : Wst} (hh : x.h.length = 32) : x.cells[35]? = some (.int .u64 (x.t : Int)) := post_cell [.int .i64 x.r, .int .i64 x.c, .int .i64 x.s] (x.h.map by8) [.int .u64 (x.t : Int), .int .i64 x.b, .int .i64 x.m] (by rw [List.length_map]; exact hh) 0 rfl

theorem add_pos (a : Addr) {j : Nat} (hj : j ≠ 0) : a.add j = ⟨a.block, a.off + j, none⟩ := by unfold Addr.add; rw [if_neg hj]
theorem info_u64 : (Try.prog.info? 43).map (fun i => (i.zero, i.size, i.bytes)) = some (some (.int .u64 0), 1, 8) := by kernel_rfl
theorem madeCells_u64 (k : Nat) : madeCells (Value.int .u64 0).cells k = (List.replicate k (Value.int .u64 0)).toArray := by
  show madeCells #[.int .u64 0] k = _
  apply Array.ext'
  rw [toList_madeCells_one]
theorem make_u64 (n : Nat) (hn : n ≤ 1000000) (w : World) : (Instr.makeSlice 24 (.int .i64 n) (.int .i64 n)).run Try.prog w =
    .ok (.slice (some ⟨w.heap.size, 0, none⟩) n n) (w.alloc (.cells (List.replicate n (Value.int .u64 0)).toArray 43)) := by
  obtain ⟨i, hi0, hz0, hz1, hz2⟩ := info_parts info_u64
  have h := run_make (P := Try.prog) w 24 43 i _ Try.underlying24 hi0 hz0 .i64 .i64 n n (by omega) (by omega) (by rw [hz2]; omega) (by omega)
  rw [h, hz1, Nat.mul_one, madeCells_u64]
  simp
theorem tv_get {t z : List Value} {n k : Nat} {u : Value} (hk : k < n) (ht : t.length = k) (hz : z = List.replicate (n - k) u) : (t ++ z)[k]? = some u := by
  subst hz
  rw [List.getElem?_append_right (by omega), ht, Nat.sub_self, List.getElem?_replicate, if_pos (by omega)]
theorem tv_set {t : List Value} {n k : Nat} {u v : Value} (hk : k < n) (ht : t.length = k) : (t ++ List.replicate (n - k) u).toArray.setIfInBounds k v = (t ++ [v] ++ List.replicate (n - (k + 1)) u).toArray := by
  have e : List.replicate (n - k) u = u :: List.replicate (n - (k + 1)) u := by rw [show n - k = (n - (k + 1)) + 1 by omega, List.replicate_succ]
  rw [e, List.setIfInBounds_toArray, List.set_append_right _ _ (by omega), ht, Nat.sub_self]
  simp
def tvL (l : List Wst) : List Value := l.map (fun x => Value.int .u64 (x.t : Int))
set_option maxHeartbeats 2000000 in
theorem time_any (x : Wce) (w : World) (hx : x.In w) (hn : x.n < 50) (C : List Value) (hC : x.cells = C) :
    Calls Try.prog 17 #[.agg C.toArray] w fun e w' => ∃ m : Int, e = .returned (.int .u64 m) ∧ (x.n % 2 = 1 → IsMed (tmL x.l) m) ∧ (x.n % 2 = 0 → m = 0) ∧ Fr [] w w' := by
  obtain ⟨wa, hwa⟩ : ∃ wa, wa = w.alloc (Obj.cells C.toArray 48) := ⟨_, rfl⟩
  have hf0 : Fr [] w wa := by rw [hwa]; exact (Fr.refl [] w).alloc _
  have hb0 : Blk wa w.heap.size 48 x.cells.toArray := by rw [hwa, hC]; exact Blk.new _ _ _
  have h37 := Wce.cell37 hb0 hx.k.h
  have HX := Lib.hid (hx.keep hf0)
  have HF0 := Lib.hid hf0
  have HWA := Lib.hid hwa
  have H37 := Lib.hid h37
  clear hwa hf0 hb0 hx
  generalize hN : x.n = n at *
  generalize hA : x.A = A at *
  have HNN := Lib.hid hN
  have HAA := Lib.hid hA
  clear hN hA
  have hmk := make_u64 n (by omega) wa
  obtain ⟨wb, hwb⟩ : ∃ wb, wb = wa.alloc (.cells (List.replicate n (Value.int .u64 0)).toArray 43) := ⟨_, rfl⟩
  rw [← hwb] at hmk
  have HFB : Hid (Fr [] wa wb) := Lib.hid (by rw [hwb]; exact (Fr.refl [] wa).alloc _)
  have HB0 : Hid (Blk wb wa.heap.size 43 (tvL (x.l.take 0) ++ List.replicate (n - 0) (Value.int .u64 0)).toArray) := Lib.hid (by rw [hwb]; simpa [tvL] using Blk.new wa 43 (List.replicate n (Value.int .u64 0)).toArray)
  clear hwb
  have h37b := HFB.out.cell h37 (by simp)
  go_enter Try.func17, Try.ntmps17
  go_upto_region 1 with (fail)
  change Code.wp _ _ _ _ (w.alloc (Obj.cells C.toArray 48))
  rw [← HWA.out]
  obtain ⟨g, hg⟩ : ∃ g, g = wa.heap.size := ⟨_, rfl⟩
  rw [← hg] at hmk HB0
  have HG := Lib.hid hg
  clear hg
  go_wp2_with fail
  go_loopw [15] (fun i wr => ∃ k : Nat, k ≤ n ∧ i = .int .i64 k ∧ Hid (Blk wr g 43 (tvL (x.l.take k) ++ List.replicate (n - k) (Value.int .u64 0)).toArray) ∧ Hid (Fr [] wa wr)) (fun i _ => n + 1 - (intOf i).toNat)
  case atStart => exact ⟨0, Nat.zero_le _, rfl, HB0, HFB⟩
  case round =>
    obtain ⟨k, hk, rfl, HB, HF⟩ := hrel
    rename World => wr
    by_cases hkn : k < n
    · obtain ⟨ad, v, hA, hv, hcl, hok, hcells⟩ := HX.out.l.at (i := k) (by rw [HNN.out]; exact hkn)
      rw [HAA.out] at hA
      subst hA
      have HCELLS := Lib.hid (fun j u (hj : v.cells[j]? = some u) => HF.out.cell (hcells j u hj) (by simp))
      have HCL := Lib.hid hcl
      have HOK := Lib.hid hok
      have HV := Lib.hid hv
      have hgne : wr.heap.size ≠ g := by have h1 := HB.out.lt; omega
      clear hv hcl hok hcells h37 h37b hmk
      go_upto_region 5 with (first
        | (refine wpList_cells rfl 45 _ rfl _ rfl v.cells HCELLS.out (row_stamp.of HCL.out) ?_)
        | (refine wpList_store_blk rfl 45 _ _ rfl wr.heap.size v.cells.toArray rfl rfl 45 zStc.cells.toArray (Blk.new wr _ _) (st_size HOK.out.h) (by rw [List.size_toArray, List.size_toArray, zStc_len, HCL.out]) v.all ?_; intro w1 hb1 hf1))
      simp only [Act.put]
      have htl : (tvL (x.l.take k)).length = k := by unfold tvL; rw [List.length_map, List.length_take, HX.out.l.1, HNN.out]; omega
      have hFA : Fr [wr.heap.size] wr w1 := ((Fr.refl [] wr).alloc (Obj.cells zStc.cells.toArray 45)).mono (T := [wr.heap.size]) (by simp) |>.trans hf1 (fun _ h _ => h)
      have hB1 := HB.out.keep hFA (by simpa using fun h : g = wr.heap.size => hgne h.symm)
      have h35 : w1.cell? ⟨wr.heap.size, 35, none⟩ = some (.int .u64 (v.t : Int)) := by
        rw [hb1.cell 35]
        simpa using Wst.cell35 HOK.out.h
      have hck : w1.cell? ⟨g, k, none⟩ = some (.int .u64 0) := by
        rw [hB1.cell k, List.getElem?_toArray]
        exact tv_get hkn htl rfl
      have hzk := hB1.frozen k
      have hset := hB1.set k (.int .u64 (v.t : Int))
      rw [tv_set hkn htl] at hset
      have HSET := Lib.hid hset
      have HF1 : Hid (Fr [] wa w1) := Lib.hid (HF.out.and hFA (by have := HF.out.size; simpa using this))
      have HTL : Hid (tvL (x.l.take (k + 1)) = tvL (x.l.take k) ++ [Value.int .u64 (v.t : Int)]) := Lib.hid (by unfold tvL; rw [List.take_add_one, HV.out]; simp)
      clear hset hFA hB1 hb1 hf1 htl
      go_wp2_with fail
      go_roundw
      case rel => exact ⟨k + 1, by omega, by go_num, Lib.hid (by rw [HTL.out]; exact HSET.out), Lib.hid ((HF1.out.and ((Fr.refl [g] w1).setCell _ (fun _ => by simp) _) (by have := HG.out; simp; omega)))⟩
      case measure => simp [intOf]; omega
    · have hke : k = n := by omega
      have hlen : (tmL x.l).length = n := by unfold tmL; rw [List.length_map, HX.out.l.1, HNN.out]
      have htk : x.l.take k = x.l := List.take_of_length_le (by rw [HX.out.l.1, HNN.out]; omega)
      have HUL : Hid (UL wr (some ⟨g, 0, none⟩) n (tmL x.l)) := Lib.hid (by
        have hb := HB.out
        rw [htk, hke, Nat.sub_self] at hb
        have e : tvL x.l ++ List.replicate 0 (Value.int .u64 0) = (tmL x.l).map (fun z => Value.int .u64 z) := by unfold tvL tmL; simp
        rw [e] at hb
        have := ul_of_blk hb (fun z hz => by
          obtain ⟨y, hy, rfl⟩ := List.mem_map.1 hz
          have := (HX.out.l.2.1 y hy).2.t
          omega)
        rwa [hlen] at this)
      have hc := median_any (some ⟨g, 0, none⟩) n n (tmL x.l) wr HUL.out (by omega)
      have HKE := Lib.hid hke
      clear hke htk h37 h37b hmk
      go_wp2_with fail
      refine hc.mono ?_
      rintro e w2 ⟨m, rfl, h1, h2, hf2⟩
      have H1 := Lib.hid h1
      have H2 := Lib.hid h2
      have HF2 := Lib.hid ((HF0.out.and HF.out (by simp)).trans hf2 (by simp))
      clear hc h1 h2 hf2
      go_wp2_with fail
      go_ret
      exact ⟨m, rfl, H1.out, H2.out, HF2.out⟩
end Go.Proofs.Ytlkhfhhaallhgaa

namespace Go.Proofs.Ytlkhfhhaallhgaa
open Go.RowKit
set_option maxRecDepth 100000
/-- an element that lies apart from what stood there and from the list that grows stays so -/
theorem keepAll {α : Type} {ok : World → List Nat → α → Prop} (hkeep : ∀ {w W : World} {S S' : List Nat} {x : α}, ok w S x → Fr S w W → (∀ k ∈ S', k < w.heap.size → k ∈ S) → ok W S' x)
    {N : Nat} {w w9 : World} {B4 B9 : List Nat} (hf : Fr B4 w w9) (hb : ∀ q ∈ B9, q ∈ B4 ∨ w.heap.size ≤ q) {x : α} (h : ∀ S0, (∀ q ∈ S0, q < N ∨ q ∈ B4) → ok w S0 x) :
    ∀ S0, (∀ q ∈ S0, q < N ∨ q ∈ B9) → ok w9 S0 x := by
  intro S0 h0
  refine hkeep (h (B4 ++ S0.filter (fun q => decide (q < N))) (fun q hq => ?_)) (hf.mono (fun k hk _ => List.mem_append.2 (.inl hk))) (fun q hq hl => ?_)
  · rcases List.mem_append.1 hq with hq | hq
    · exact .inr hq
    · exact .inl (by simpa using (List.mem_filter.1 hq).2)
  · rcases h0 q hq with h1 | h1
    · exact List.mem_append.2 (.inr (List.mem_filter.2 ⟨hq, by simpa using h1⟩))
    · rcases hb q h1 with h2 | h2
      · exact List.mem_append.2 (.inl h2)
      · omega
/-- an opening, a tombstone, a batch that comes in -/
structure Wop.In (w : World) (x : Wop) : Prop where
  i : i64In x.i
  p : By w x.A x.n x.p
  n : x.n ≤ maxLen
  d : x.n ≤ x.d
  h : x.h.length = 32
theorem Wop.In.keep {w w' : World} {x : Wop} (h : x.In w) (hf : Fr [] w w') : x.In w' := ⟨h.i, h.p.keep hf (by simp), h.n, h.d, h.h⟩
structure Wtb.In (w : World) (x : Wtb) : Prop where
  i : i64In x.i
  l : Lst 4 Wdn.cells (fun _ v => v.Ok) w x.A x.n x.l
  n : x.n ≤ maxLen
  d : x.n ≤ x.d
theorem Wtb.In.keep {w w' : World} {x : Wtb} (h : x.In w) (hf : Fr [] w w') : x.In w' := ⟨h.i, h.l.keep' hf (by simp) (fun _ _ h => h), h.n, h.d⟩
theorem Wpr.In.keep {w w' : World} {x : Wpr} (h : x.In w) (hf : Fr [] w w') : x.In w' := ⟨h.r, h.e, h.t, h.l.keep' hf (by simp) (fun _ _ h => h.keep hf), h.n, h.d, h.b, h.m⟩
structure Wba.In (w : World) (x : Wba) : Prop where
  e : i64In x.e
  t : x.t < 18446744073709551616
  l : Lst 6 Wpr.cells (fun w v => v.In w) w x.A x.n x.l
  n : x.n ≤ maxLen
  l2 : Lst 34 Wop.cells (fun w v => v.In w) w x.A2 x.n2 x.l2
  n2 : x.n2 ≤ maxLen
  l3 : Lst 2 Wtb.cells (fun w v => v.In w) w x.A3 x.n3 x.l3
  n3 : x.n3 ≤ maxLen
theorem Wba.In.keep {w w' : World} {x : Wba} (h : x.In w) (hf : Fr [] w w') : x.In w' :=
  ⟨h.e, h.t, h.l.keep' hf (by simp) (fun _ _ h => h.keep hf), h.n, h.l2.keep' hf (by simp) (fun _ _ h => h.keep hf), h.n2, h.l3.keep' hf (by simp) (fun _ _ h => h.keep hf), h.n3⟩
/-- a proposal that comes in -/
structure Wpo.In (w : World) (x : Wpo) : Prop where
  e : i64In x.e
  r : i64In x.r
  v : i64In x.v
  p : i64In x.p
  k : x.k.In w
  b : i64In x.b
  m : i64In x.m
def zeroBa : Array Value := (Wba.cells ⟨0, 0, none, 0, 0, [], none, 0, 0, [], none, 0, 0, []⟩).toArray

end Go.Proofs.Ytlkhfhhaallhgaa

namespace Go.Proofs.Ytlkhfhhaallhgaa
open Go.RowKit
set_option maxRecDepth 100000
theorem exec_eql {P : Program} {ev : Operand → Value} {o : Oper} {w : World} (ty r : TypeId) (x y : Operand) (ho : o.op = .binOp .eql ty x y r) (C D : Array Value) (hx : ev x = .agg C) (hy : ev y = .agg D) (b : Bool)
    (hg : P.eqGuardType P.depth ty = false) (hq : (Op.equalIn 10000 ty (.agg C) (.agg D)).run P w = .ok b w) : (execOp ev o).run P w = .ok (.value (.bool b)) w := by
  have hq' : (Op.equal ty (.agg C) (.agg D)).run P w = .ok b w := hq
  unfold execOp
  simp only [ho, hx, hy]
  simp [eqGuard, binOp, hg, hq', Result.andThen]
theorem eql_at {P : Program} {l : List Oper} {Q : Exit → Act → World → Prop} {md : Region.Mode} {S : World → Prop} {fuel : Nat} {listed : Array Bool} {a : Act} {w : World}
    {i : Nat} {oi : Oper} (hi : nthOp l i = some oi) (ht : takeOk md l.toArray listed i = true) (hw : Region.wanted oi (yielded l.toArray a.tmps) = true)
    (ty r : TypeId) (x y : Operand) (ho : oi.op = .binOp .eql ty x y r) (C D : Array Value) (hx : a.eval x = .agg C) (hy : a.eval y = .agg D) (b : Bool) (hg : P.eqGuardType P.depth ty = false)
    (hq : ∀ w, (Op.equalIn 10000 ty (.agg C) (.agg D)).run P w = .ok b w)
    (hQ : ∀ c a w, Q (.panic c) (a.put oi.dst (.bool b)) w → Q (.panic c) a w) (hS : S w)
    (h : wpAnyH P md l.toArray Q S fuel (listed.setIfInBounds i true) (a.put oi.dst (.bool b)) w) : wpAnyH P md l.toArray Q S (fuel + 1) listed a w :=
  run_at hi ht hw hQ hS (fun _ _ => exec_eql ty r x y ho C D hx hy b hg (hq _)) h
theorem exec_neq {P : Program} {ev : Operand → Value} {o : Oper} {w : World} (ty r : TypeId) (x y : Operand) (ho : o.op = .binOp .neq ty x y r) (C D : Array Value) (hx : ev x = .agg C) (hy : ev y = .agg D) (b : Bool)
    (hg : P.eqGuardType P.depth ty = false) (hq : (Op.equalIn 10000 ty (.agg C) (.agg D)).run P w = .ok b w) : (execOp ev o).run P w = .ok (.value (.bool (!b))) w := by
  have hq' : (Op.equal ty (.agg C) (.agg D)).run P w = .ok b w := hq
  unfold execOp
  simp only [ho, hx, hy]
  simp [eqGuard, binOp, hg, hq', Result.andThen]
theorem neq_at {P : Program} {l : List Oper} {Q : Exit → Act → World → Prop} {md : Region.Mode} {S : World → Prop} {fuel : Nat} {listed : Array Bool} {a : Act} {w : World}
    {i : Nat} {oi : Oper} (hi : nthOp l i = some oi) (ht : takeOk md l.toArray listed i = true) (hw : Region.wanted oi (yielded l.toArray a.tmps) = true)
    (ty r : TypeId) (x y : Operand) (ho : oi.op = .binOp .neq ty x y r) (C D : Array Value) (hx : a.eval x = .agg C) (hy : a.eval y = .agg D) (b : Bool) (hg : P.eqGuardType P.depth ty = false)
    (hq : ∀ w, (Op.equalIn 10000 ty (.agg C) (.agg D)).run P w = .ok b w)
    (hQ : ∀ c a w, Q (.panic c) (a.put oi.dst (.bool (!b))) w → Q (.panic c) a w) (hS : S w)
    (h : wpAnyH P md l.toArray Q S fuel (listed.setIfInBounds i true) (a.put oi.dst (.bool (!b))) w) : wpAnyH P md l.toArray Q S (fuel + 1) listed a w :=
  run_at hi ht hw hQ hS (fun _ _ => exec_neq ty r x y ho C D hx hy b hg (hq _)) h
end Go.Proofs.Ytlkhfhhaallhgaa

namespace Go.Proofs.Ytlkhfhhaallhgaa
open Go.RowKit
set_option maxRecDepth 100000
theorem add_off (g o j : Nat) : (⟨g, o, none⟩ : Addr).add j = ⟨g, o + j, none⟩ := by unfold Addr.add; split <;> simp_all
theorem wpList_eqlg {P : Program} {ops : Array Oper} {rest : List Oper} {op : Oper} {a : Act} {w : World} {Q : Exit → Act → World → Prop} (hw : Region.wanted op (yielded ops a.tmps) = true) (ty r : TypeId) (x y : Operand) (ho : op.op = .binOp .eql ty x y r) (C D : Array Value) (hx : a.eval x = .agg C) (hy : a.eval y = .agg D) (b : Bool)
    (hg : P.eqGuardType P.depth ty = false) (hq : (Op.equalIn 10000 ty (.agg C) (.agg D)).run P w = .ok b w) (h : wpList P ops Q rest (a.put op.dst (.bool b)) w) : wpList P ops Q (op :: rest) a w :=
  BigFrame.wpList_want hw fun _ hK => wp_run (exec_eql ty r x y ho C D hx hy b hg hq) (hK _ _ h)
theorem wpList_midg {P : Program} {ops : Array Oper} {rest : List Oper} {op : Oper} {a : Act} {w : World} {Q : Exit → Act → World → Prop} (hw : Region.wanted op (yielded ops a.tmps) = true) (ty : TypeId) (x : Operand) (ho : op.op = .load ty x)
    (b o : Nat) (hx : a.eval x = .pointer (some ⟨b, o, none⟩)) (cs : List Value) (hc : w.rangeAt b o cs) (hr : RowTy P ty cs.length) (h : wpList P ops Q rest (a.put op.dst (.agg cs.toArray)) w) : wpList P ops Q (op :: rest) a w :=
  wpList_cells hw ty x ho ⟨b, o, none⟩ hx cs (fun j v hv => by rw [add_off]; exact hc j v hv) hr h
section
variable {P : Program} {l : List Oper} {Q : Exit → Act → World → Prop} {md : Region.Mode} {S : World → Prop} {fuel : Nat} {listed : Array Bool} {a : Act} {w : World}
theorem crow_at {i : Nat} {oi : Oper} (hi : nthOp l i = some oi) (ht : takeOk md l.toArray listed i = true) (hw : Region.wanted oi (yielded l.toArray a.tmps) = true)
    (ty : TypeId) (x : Operand) (ho : oi.op = .load ty x) (ad : Addr) (hx : a.eval x = .pointer (some ad)) (cs : List Value) (hc : ∀ w1, S w1 → ∀ j v, cs[j]? = some v → w1.cell? (ad.add j) = some v) (hr : RowTy P ty cs.length)
    (hQ : ∀ c a w, Q (.panic c) (a.put oi.dst (.agg cs.toArray)) w → Q (.panic c) a w) (hS : S w)
    (h : wpAnyH P md l.toArray Q S fuel (listed.setIfInBounds i true) (a.put oi.dst (.agg cs.toArray)) w) : wpAnyH P md l.toArray Q S (fuel + 1) listed a w :=
  take_at hi ht hQ (.inl ⟨hw, fun w1 h1 => exec_cells ty x ho ad hx cs hr (hc w1 h1)⟩) hS h
end
theorem row_hs : RowTy Try.prog 35 32 := ⟨by kernel_rfl, by kernel_rfl⟩
theorem fld_add (ad : Addr) (m j : Nat) : (ad.add m).add (j + 1) = ⟨(ad.add m).block, (ad.add m).off + (j + 1), none⟩ := rfl

end Go.Proofs.Ytlkhfhhaallhgaa

namespace Go.Proofs.Ytlkhfhhaallhgaa
open Go.RowKit
set_option maxRecDepth 100000

def nameB (s : Wst) (k : Wcm) : Bool := decide (s.c = k.c) && decide (s.s = k.s)
def ofB (s : Wst) (k : Wcm) : Bool := nameB s k && decide (s.h = k.h)
set_option maxHeartbeats 2000000 in
theorem isof_any (s : Wst) (k : Wcm) (hs : s.Ok) (hk : k.Ok) (C D : List Value) (hC : s.cells = C) (hD : k.cells = D) (w : World) :
    Calls Try.prog 28 #[.agg C.toArray, .agg D.toArray] w fun e w' => e = .returned (.bool (ofB s k)) ∧ Fr [] w w' := by
  obtain ⟨wa, hwa⟩ : ∃ wa, wa = (w.alloc (Obj.cells C.toArray 45)).alloc (Obj.cells D.toArray 39) := ⟨_, rfl⟩
  have hf0 : Fr [] w wa := by rw [hwa]; exact ((Fr.refl [] w).alloc _).alloc _
  have hb0 : Blk wa w.heap.size 45 s.cells.toArray := by rw [hwa, hC]; exact blk_alloc (Blk.new _ _ _)
  have hb1 : Blk wa (w.heap.size + 1) 39 k.cells.toArray := by
    have := Blk.new (w.alloc (Obj.cells C.toArray 45)) 39 D.toArray
    rw [hwa, hD]
    simpa using this
  have HS := Lib.hid (Wst.at_of (by simpa using hb0.range) hs.h)
  have HK := Lib.hid (Wcm.at_of (by simpa using hb1.range) hk.h)
  have HN0 : Hid (wa.rangeAt w.heap.size 1 [.int .i64 s.c, .int .i64 s.s]) := Lib.hid (by simpa using HS.out.name)
  have HN1 : Hid (wa.rangeAt (w.heap.size + 1) 0 [.int .i64 k.c, .int .i64 k.s]) := Lib.hid (by simpa using HK.out.name)
  have HH0 : Hid (wa.rangeAt w.heap.size 3 (s.h.map by8)) := Lib.hid (by simpa using HS.out.hash)
  have HH1 : Hid (wa.rangeAt (w.heap.size + 1) 2 (k.h.map by8)) := Lib.hid (by simpa using HK.out.hash)
  have HL0 : Hid ((s.h.map by8).length = 32) := Lib.hid (by rw [List.length_map]; exact hs.h)
  have HL1 : Hid ((k.h.map by8).length = 32) := Lib.hid (by rw [List.length_map]; exact hk.h)
  have HQN : Hid ((Op.equalIn 10000 23 (.agg #[.int .i64 s.c, .int .i64 s.s]) (.agg #[.int .i64 k.c, .int .i64 k.s])).run Try.prog wa = .ok (nameB s k) wa) := Lib.hid (eql_name s.c s.s k.c k.s 9998 wa)
  have HQH : Hid ((Op.equalIn 10000 35 (.agg (s.h.map by8).toArray) (.agg (k.h.map by8).toArray)).run Try.prog wa = .ok (decide (s.h = k.h)) wa) := Lib.hid (eql_hash s.h k.h hs.h hk.h 9998 wa)
  obtain ⟨r, hr⟩ : ∃ r, r = ofB s k := ⟨_, rfl⟩
  have hr2 : r = (nameB s k && decide (s.h = k.h)) := hr
  rw [← hr]
  have HF0 := Lib.hid hf0
  have HWA := Lib.hid hwa
  clear hwa hf0 hb0 hb1 hr hs hk hC hD
  generalize nameB s k = B at *
  generalize decide (s.h = k.h) = E at *
  generalize s.h.map by8 = SV at *
  generalize k.h.map by8 = KV at *
  go_enter Try.func28, Try.ntmps28
  go_upto_region 1 with (fail)
  change Code.wp _ _ _ _ ((w.alloc (Obj.cells C.toArray 45)).alloc (Obj.cells D.toArray 39))
  rw [← HWA.out]
  cases B
  · have HR : Hid (r = false) := Lib.hid (by rw [hr2]; rfl)
    clear hr2
    go_wp2_with (first
      | (refine wpList_midg rfl 23 _ rfl w.heap.size 1 rfl _ HN0.out row_name ?_)
      | (refine wpList_midg rfl 23 _ rfl (w.heap.size + 1) 0 rfl _ HN1.out row_name ?_)
      | (refine wpList_eqlg rfl 23 _ _ _ rfl _ _ rfl rfl false (by kernel_rfl) HQN.out ?_))
    go_ret
    exact ⟨by rw [HR.out]; rfl, HF0.out⟩
  · have HR : Hid (r = E) := Lib.hid (by rw [hr2]; rfl)
    clear hr2
    go_wp2_with (first
      | (refine wpList_midg rfl 23 _ rfl w.heap.size 1 rfl _ HN0.out row_name ?_)
      | (refine wpList_midg rfl 23 _ rfl (w.heap.size + 1) 0 rfl _ HN1.out row_name ?_)
      | (refine wpList_eqlg rfl 23 _ _ _ rfl _ _ rfl rfl true (by kernel_rfl) HQN.out ?_)
      | (refine wpList_midg rfl 35 _ rfl w.heap.size 3 rfl SV HH0.out (row_hash.of HL0.out) ?_)
      | (refine wpList_midg rfl 35 _ rfl (w.heap.size + 1) 2 rfl KV HH1.out (row_hash.of HL1.out) ?_)
      | (refine wpList_eqlg rfl 35 _ _ _ rfl _ _ rfl rfl E (by kernel_rfl) HQH.out ?_))
    go_ret
    exact ⟨by rw [HR.out]; rfl, HF0.out⟩
end Go.Proofs.Ytlkhfhhaallhgaa

namespace Go.Proofs.Ytlkhfhhaallhgaa
open Go.RowKit
set_option maxRecDepth 100000

set_option maxHeartbeats 4000000 in
theorem refname_any (y z : Int) (hy : i64In y) (hz : i64In z) (w : World) :
    Calls Try.prog 51 #[.agg #[.int .i64 y, .int .i64 z]] w fun e w' => ∃ A c, e = .returned (.slice A (nmL y z).length c) ∧ NewB w w' A (nmL y z).length c (nmL y z) := by
  obtain ⟨wa, hwa⟩ : ∃ wa, wa = w.alloc (Obj.cells #[.int .i64 y, .int .i64 z] 23) := ⟨_, rfl⟩
  have hf0 : Fr [] w wa := by rw [hwa]; exact (Fr.refl [] w).alloc _
  have HC0 : Hid (wa.cell? ⟨w.heap.size, 0, none⟩ = some (.int .i64 y)) := Lib.hid (by rw [hwa]; exact (Blk.new _ _ _).cell 0)
  have HC1 : Hid (wa.cell? ⟨w.heap.size, 1, none⟩ = some (.int .i64 z)) := Lib.hid (by rw [hwa]; exact (Blk.new _ _ _).cell 1)
  have HX := Lib.hid (And.intro hy hz)
  clear hy hz
  have HF0 := Lib.hid hf0
  have HWA := Lib.hid hwa
  clear hwa hf0
  go_enter Try.func51, Try.ntmps51
  go_wp2
  rw [← HWA.out]
  refine wp_region_held_drew (S := Fr [] wa) (by kernel_rfl) (Fr.drew (Fr.refl _ wa)) (fun hHeld => ?_)
  have HFD : Hid (Fr [] wa wa.drew) := Lib.hid (Fr.drew (Fr.refl [] wa))
  generalize wa.drew = wd at *
  refine run_at (i := 0) (v := ?_) rfl (by kernel_rfl) (by rfl) (fun _ _ _ h => h) hHeld (fun w1 hw1 => ?_) ?_
  rotate_left 1
  · skip
    go_simp
    (try (first | with_reducible rfl | (apply And.intro <;> rfl)))
  simp only [Act.put, List.setIfInBounds_toArray, List.set_cons_zero, List.set_cons_succ]
  refine run_at (i := 1) (v := ?_) rfl (by kernel_rfl) (by rfl) (fun _ _ _ h => h) hHeld (fun w1 hw1 => ?_) ?_
  rotate_left 1
  · skip
    have hcw0 := hw1.cell (HC0.out) (by first | (simp; done) | exact HNS.out | exact HNW.out | (intro hm; have hlt := HSB.out _ hm; (try dsimp only at hlt); omega))
    go_simp
    (try (first | with_reducible rfl | (apply And.intro <;> rfl)))
  simp only [Act.put, List.setIfInBounds_toArray, List.set_cons_zero, List.set_cons_succ]
  refine run_at (i := 3) (v := ?_) rfl (by kernel_rfl) (by rfl) (fun _ _ _ h => h) hHeld (fun w1 hw1 => ?_) ?_
  rotate_left 1
  · skip
    go_simp
    (try (first | with_reducible rfl | (apply And.intro <;> rfl)))
  simp only [Act.put, List.setIfInBounds_toArray, List.set_cons_zero, List.set_cons_succ]
  refine run_at (i := 4) (v := ?_) rfl (by kernel_rfl) (by rfl) (fun _ _ _ h => h) hHeld (fun w1 hw1 => ?_) ?_
  rotate_left 1
  · skip
    have hcw0 := hw1.cell (HC1.out) (by first | (simp; done) | exact HNS.out | exact HNW.out | (intro hm; have hlt := HSB.out _ hm; (try dsimp only at hlt); omega))
    go_simp
    (try (first | with_reducible rfl | (apply And.intro <;> rfl)))
  simp only [Act.put, List.setIfInBounds_toArray, List.set_cons_zero, List.set_cons_succ]
  refine call_at (i := 2) (f := ?_) (args := ?_) rfl (by kernel_rfl) (by rfl) ?_ ?_
  rotate_left 2
  · go_simp
    (try (first | with_reducible rfl | (apply And.intro <;> rfl)))
  refine (refint_any y HX.out.1.2 wd).mono ?_
  rintro e w2 ⟨A2, c2, rfl, hN⟩
  obtain ⟨n2, hn2⟩ : ∃ nn_, nn_ = (encI y).length := ⟨_, rfl⟩
  obtain ⟨l2, hl2⟩ : ∃ ll_, ll_ = encI y := ⟨_, rfl⟩
  rw [← hn2] at hN ⊢
  rw [← hl2] at hN
  have HB2 : Hid (n2 ≤ 20000) := Lib.hid (by rw [hn2]; have := encI_len y HX.out.1.2; omega)
  have HL2 := Lib.hid hl2
  refine ⟨_, rfl, hHeld.go hN.2.1 (by simp), fun hHeld => ?_⟩
  simp only [Act.put, List.setIfInBounds_toArray, List.set_cons_zero, List.set_cons_succ]
  have HY2 := Lib.hid hN.by
  have HFD := Lib.hid (HFD.out.and hN.2.1 (by simp))
  clear hN hn2 hl2
  refine call_at (i := 5) (f := ?_) (args := ?_) rfl (by kernel_rfl) (by rfl) ?_ ?_
  rotate_left 2
  · go_simp
    (try (first | with_reducible rfl | (apply And.intro <;> rfl)))
  refine (refint_any z HX.out.2.2 w2).mono ?_
  rintro e w5 ⟨A5, c5, rfl, hN⟩
  obtain ⟨n5, hn5⟩ : ∃ nn_, nn_ = (encI z).length := ⟨_, rfl⟩
  obtain ⟨l5, hl5⟩ : ∃ ll_, ll_ = encI z := ⟨_, rfl⟩
  rw [← hn5] at hN ⊢
  rw [← hl5] at hN
  have HB5 : Hid (n5 ≤ 20000) := Lib.hid (by rw [hn5]; have := encI_len z HX.out.2.2; omega)
  have HL5 := Lib.hid hl5
  refine ⟨_, rfl, hHeld.go hN.2.1 (by simp), fun hHeld => ?_⟩
  simp only [Act.put, List.setIfInBounds_toArray, List.set_cons_zero, List.set_cons_succ]
  have HY5 := Lib.hid hN.by
  have HFD := Lib.hid (HFD.out.and hN.2.1 (by simp))
  have HY2 := Lib.hid (Fr.byk hN.2.1 HY2.out)
  clear hN hn5 hl5
  refine step_at (i := 6) rfl (by kernel_rfl) (by rfl) (fun K hK => ?_)
  refine wp_run (v := ?_) (w' := ?_) ?_ ?_
  rotate_left 2
  · go_simp
    (try (first | with_reducible rfl | (apply And.intro <;> rfl)))
  refine hK.out _ (w5.alloc (Obj.cells #[.slice A2 n2 c2, .slice A5 n5 c5] 41)) (hHeld.alloc _) (fun hHeld => ?_)
  clear hK K
  simp only [Act.put, List.setIfInBounds_toArray, List.set_cons_zero, List.set_cons_succ]
  have hfb : Fr [] w5 (w5.alloc (Obj.cells #[.slice A2 n2 c2, .slice A5 n5 c5] 41)) := (Fr.refl [] w5).alloc _
  have hbb : Blk (w5.alloc (Obj.cells #[.slice A2 n2 c2, .slice A5 n5 c5] 41)) w5.heap.size 41 (([⟨A2, n2, c2, l2⟩, ⟨A5, n5, c5, l5⟩] : List RowV).map RowV.val).toArray := Blk.new _ _ _
  generalize w5.alloc (Obj.cells #[.slice A2 n2 c2, .slice A5 n5 c5] 41) = wj at *
  have HFD := Lib.hid (HFD.out.and hfb (by simp))
  have hj := join_big w5.heap.size 2 [⟨A2, n2, c2, l2⟩, ⟨A5, n5, c5, l5⟩] wj hbb rfl (by omega) (by
    intro r hr
    simp only [List.mem_cons, List.not_mem_nil, or_false] at hr
    rcases hr with rfl | rfl
    · exact ⟨Fr.byk hfb HY2.out, HB2.out⟩
    · exact ⟨Fr.byk hfb HY5.out, HB5.out⟩)
  have hJ : joinL [⟨A2, n2, c2, l2⟩, ⟨A5, n5, c5, l5⟩] = nmL y z := by
    simp only [joinL, List.map_cons, List.map_nil, List.flatten_cons, List.flatten_nil, HL2.out, HL5.out]
    simp [nmL]
  rw [hJ] at hj
  obtain ⟨X, hX⟩ : ∃ X, X = nmL y z := ⟨_, rfl⟩
  rw [← hX] at hj
  have HXT := Lib.hid hX
  clear hX
  have HJ := Lib.hid hj
  clear hfb hbb hj hJ HY2 HL2 HY5 HL5
  refine call_at (i := 7) (f := ?_) (args := ?_) rfl (by kernel_rfl) (by rfl) ?_ ?_
  rotate_left 2
  · go_simp
    (try (first | with_reducible rfl | (apply And.intro <;> rfl)))
  refine HJ.out.mono ?_
  rintro e wk ⟨Aj, cj, rfl, hN⟩
  have HN := Lib.hid (hN.from2 (HF0.out.and HFD.out (by simp)))
  refine ⟨_, rfl, hHeld.go hN.2.1 (by simp), fun hHeld => ?_⟩
  clear hN
  simp only [Act.put, List.setIfInBounds_toArray, List.set_cons_zero, List.set_cons_succ]
  refine run_at (i := 8) (v := ?_) rfl (by kernel_rfl) (by rfl) (fun _ _ _ h => h) hHeld (fun w1 hw1 => ?_) ?_
  rotate_left 1
  · skip
    go_simp
    (try (first | with_reducible rfl | (apply And.intro <;> rfl)))
  simp only [Act.put, List.setIfInBounds_toArray, List.set_cons_zero, List.set_cons_succ]
  refine wpAnyH_done (by kernel_rfl) ?_ _
  go_wp2
  go_ret
  rw [← HXT.out]
  exact ⟨Aj, cj, rfl, HN.out⟩
set_option maxHeartbeats 4000000 in
theorem refbare_any (x : Wst) (hx : x.Ok) (C : List Value) (hC : x.cells = C) (w : World) :
    Calls Try.prog 37 #[.agg C.toArray] w fun e w' => ∃ A c, e = .returned (.slice A (x.bare).length c) ∧ NewB w w' A (x.bare).length c (x.bare) := by
  obtain ⟨wa, hwa⟩ : ∃ wa, wa = w.alloc (Obj.cells C.toArray 45) := ⟨_, rfl⟩
  have hf0 : Fr [] w wa := by rw [hwa]; exact (Fr.refl [] w).alloc _
  have hb0 : Blk wa w.heap.size 45 x.cells.toArray := by rw [hwa, hC]; exact Blk.new _ _ _
  have HALL : Hid (wa.rangeAt w.heap.size 0 C) := Lib.hid (by rw [← hC]; exact hb0.range)
  have HLN : Hid (C.length = 38) := Lib.hid (by rw [← hC]; exact Wst.len hx.h)
  have hat := Wst.at_of (o := 0) hb0.range hx.h
  have HAT := Lib.hid hat
  have HYH : Hid (By wa (some ⟨w.heap.size, 3, none⟩) 32 x.h) := Lib.hid (by have h := By.of_range hat.hash; rw [hx.h] at h; exact h)
  have HX := Lib.hid hx
  have HRC := Lib.hid hC
  clear hb0 hx hC hat
  have HF0 := Lib.hid hf0
  have HWA := Lib.hid hwa
  clear hwa hf0
  go_enter Try.func37, Try.ntmps37
  go_wp2
  rw [← HWA.out]
  refine wp_region_held_drew (S := Fr [] wa) (by kernel_rfl) (Fr.drew (Fr.refl _ wa)) (fun hHeld => ?_)
  have HFD : Hid (Fr [] wa wa.drew) := Lib.hid (Fr.drew (Fr.refl [] wa))
  generalize wa.drew = wd at *
  refine run_at (i := 0) (v := ?_) rfl (by kernel_rfl) (by rfl) (fun _ _ _ h => h) hHeld (fun w1 hw1 => ?_) ?_
  rotate_left 1
  · skip
    go_simp
    (try (first | with_reducible rfl | (apply And.intro <;> rfl)))
  simp only [Act.put, List.setIfInBounds_toArray, List.set_cons_zero, List.set_cons_succ]
  refine run_at (i := 1) (v := ?_) rfl (by kernel_rfl) (by rfl) (fun _ _ _ h => h) hHeld (fun w1 hw1 => ?_) ?_
  rotate_left 1
  · skip
    have hcw0 := hw1.cell (HAT.out.r) (by first | (simp; done) | exact HNS.out | exact HNW.out | (intro hm; have hlt := HSB.out _ hm; (try dsimp only at hlt); omega))
    go_simp
    (try (first | with_reducible rfl | (apply And.intro <;> rfl)))
  simp only [Act.put, List.setIfInBounds_toArray, List.set_cons_zero, List.set_cons_succ]
  refine run_at (i := 3) (v := ?_) rfl (by kernel_rfl) (by rfl) (fun _ _ _ h => h) hHeld (fun w1 hw1 => ?_) ?_
  rotate_left 1
  · skip
    go_simp
    (try (first | with_reducible rfl | (apply And.intro <;> rfl)))
  simp only [Act.put, List.setIfInBounds_toArray, List.set_cons_zero, List.set_cons_succ]
  refine row_at (i := 4) rfl (by kernel_rfl) (by rfl) _ _ rfl _ _ rfl _ (fun w1 hw1 => hw1.range (HAT.out.name) (by first | (simp; done) | exact HNS.out | exact HNW.out | (intro hm; have hlt := HSB.out _ hm; (try dsimp only at hlt); omega))) (row_name) (fun _ _ _ h => h) hHeld ?_
  simp only [Act.put, List.setIfInBounds_toArray, List.set_cons_zero, List.set_cons_succ]
  refine run_at (i := 6) (v := ?_) rfl (by kernel_rfl) (by rfl) (fun _ _ _ h => h) hHeld (fun w1 hw1 => ?_) ?_
  rotate_left 1
  · skip
    go_simp
    (try (first | with_reducible rfl | (apply And.intro <;> rfl)))
  simp only [Act.put, List.setIfInBounds_toArray, List.set_cons_zero, List.set_cons_succ]
  refine run_at (i := 7) (v := ?_) rfl (by kernel_rfl) (by rfl) (fun _ _ _ h => h) hHeld (fun w1 hw1 => ?_) ?_
  rotate_left 1
  · skip
    go_simp
    (try (first | with_reducible rfl | (apply And.intro <;> rfl)))
  simp only [Act.put, List.setIfInBounds_toArray, List.set_cons_zero, List.set_cons_succ]
  refine run_at (i := 8) (v := ?_) rfl (by kernel_rfl) (by rfl) (fun _ _ _ h => h) hHeld (fun w1 hw1 => ?_) ?_
  rotate_left 1
  · skip
    go_simp
    (try (first | with_reducible rfl | (apply And.intro <;> rfl)))
  simp only [Act.put, List.setIfInBounds_toArray, List.set_cons_zero, List.set_cons_succ]
  refine run_at (i := 9) (v := ?_) rfl (by kernel_rfl) (by rfl) (fun _ _ _ h => h) hHeld (fun w1 hw1 => ?_) ?_
  rotate_left 1
  · skip
    have hcw0 := hw1.cell (HAT.out.t) (by first | (simp; done) | exact HNS.out | exact HNW.out | (intro hm; have hlt := HSB.out _ hm; (try dsimp only at hlt); omega))
    go_simp
    (try (first | with_reducible rfl | (apply And.intro <;> rfl)))
  simp only [Act.put, List.setIfInBounds_toArray, List.set_cons_zero, List.set_cons_succ]
  refine call_at (i := 2) (f := ?_) (args := ?_) rfl (by kernel_rfl) (by rfl) ?_ ?_
  rotate_left 2
  · go_simp
    (try (first | with_reducible rfl | (apply And.intro <;> rfl)))
  refine (refint_any x.r HX.out.r.2 wd).mono ?_
  rintro e w2 ⟨A2, c2, rfl, hN⟩
  obtain ⟨n2, hn2⟩ : ∃ nn_, nn_ = (encI x.r).length := ⟨_, rfl⟩
  obtain ⟨l2, hl2⟩ : ∃ ll_, ll_ = encI x.r := ⟨_, rfl⟩
  rw [← hn2] at hN ⊢
  rw [← hl2] at hN
  have HB2 : Hid (n2 ≤ 20000) := Lib.hid (by rw [hn2]; have := encI_len x.r HX.out.r.2; omega)
  have HL2 := Lib.hid hl2
  refine ⟨_, rfl, hHeld.go hN.2.1 (by simp), fun hHeld => ?_⟩
  simp only [Act.put, List.setIfInBounds_toArray, List.set_cons_zero, List.set_cons_succ]
  have HY2 := Lib.hid hN.by
  have HFD := Lib.hid (HFD.out.and hN.2.1 (by simp))
  clear hN hn2 hl2
  refine call_at (i := 5) (f := ?_) (args := ?_) rfl (by kernel_rfl) (by rfl) ?_ ?_
  rotate_left 2
  · go_simp
    (try (first | with_reducible rfl | (apply And.intro <;> rfl)))
  refine (refname_any x.c x.s HX.out.c HX.out.s w2).mono ?_
  rintro e w5 ⟨A5, c5, rfl, hN⟩
  obtain ⟨n5, hn5⟩ : ∃ nn_, nn_ = (nmL x.c x.s).length := ⟨_, rfl⟩
  obtain ⟨l5, hl5⟩ : ∃ ll_, ll_ = nmL x.c x.s := ⟨_, rfl⟩
  rw [← hn5] at hN ⊢
  rw [← hl5] at hN
  have HB5 : Hid (n5 ≤ 20000) := Lib.hid (by rw [hn5]; have := encI_len x.c HX.out.c.2; have := encI_len x.s HX.out.s.2; simp only [nmL, List.length_append]; omega)
  have HL5 := Lib.hid hl5
  refine ⟨_, rfl, hHeld.go hN.2.1 (by simp), fun hHeld => ?_⟩
  simp only [Act.put, List.setIfInBounds_toArray, List.set_cons_zero, List.set_cons_succ]
  have HY5 := Lib.hid hN.by
  have HFD := Lib.hid (HFD.out.and hN.2.1 (by simp))
  have HY2 := Lib.hid (Fr.byk hN.2.1 HY2.out)
  clear hN hn5 hl5
  refine call_at (i := 10) (f := ?_) (args := ?_) rfl (by kernel_rfl) (by rfl) ?_ ?_
  rotate_left 2
  · go_simp
    (try (first | with_reducible rfl | (apply And.intro <;> rfl)))
  refine (refnum_any x.t HX.out.t w5).mono ?_
  rintro e w10 ⟨A10, c10, rfl, hN⟩
  obtain ⟨n10, hn10⟩ : ∃ nn_, nn_ = (enc x.t).length := ⟨_, rfl⟩
  obtain ⟨l10, hl10⟩ : ∃ ll_, ll_ = enc x.t := ⟨_, rfl⟩
  rw [← hn10] at hN ⊢
  rw [← hl10] at hN
  have HB10 : Hid (n10 ≤ 20000) := Lib.hid (by rw [hn10]; have := enc_ten HX.out.t; omega)
  have HL10 := Lib.hid hl10
  refine ⟨_, rfl, hHeld.go hN.2.1 (by simp), fun hHeld => ?_⟩
  simp only [Act.put, List.setIfInBounds_toArray, List.set_cons_zero, List.set_cons_succ]
  have HY10 := Lib.hid hN.by
  have HFD := Lib.hid (HFD.out.and hN.2.1 (by simp))
  have HY2 := Lib.hid (Fr.byk hN.2.1 HY2.out)
  have HY5 := Lib.hid (Fr.byk hN.2.1 HY5.out)
  clear hN hn10 hl10
  refine step_at (i := 11) rfl (by kernel_rfl) (by rfl) (fun K hK => ?_)
  refine wp_run (v := ?_) (w' := ?_) ?_ ?_
  rotate_left 2
  · go_simp
    (try (first | with_reducible rfl | (apply And.intro <;> rfl)))
  refine hK.out _ (w10.alloc (Obj.cells #[.slice A2 n2 c2, .slice A5 n5 c5, .slice (some ⟨w.heap.size, 3, none⟩) 32 32, .slice A10 n10 c10] 41)) (hHeld.alloc _) (fun hHeld => ?_)
  clear hK K
  simp only [Act.put, List.setIfInBounds_toArray, List.set_cons_zero, List.set_cons_succ]
  have hfb : Fr [] w10 (w10.alloc (Obj.cells #[.slice A2 n2 c2, .slice A5 n5 c5, .slice (some ⟨w.heap.size, 3, none⟩) 32 32, .slice A10 n10 c10] 41)) := (Fr.refl [] w10).alloc _
  have hbb : Blk (w10.alloc (Obj.cells #[.slice A2 n2 c2, .slice A5 n5 c5, .slice (some ⟨w.heap.size, 3, none⟩) 32 32, .slice A10 n10 c10] 41)) w10.heap.size 41 (([⟨A2, n2, c2, l2⟩, ⟨A5, n5, c5, l5⟩, ⟨some ⟨w.heap.size, 3, none⟩, 32, 32, x.h⟩, ⟨A10, n10, c10, l10⟩] : List RowV).map RowV.val).toArray := Blk.new _ _ _
  generalize w10.alloc (Obj.cells #[.slice A2 n2 c2, .slice A5 n5 c5, .slice (some ⟨w.heap.size, 3, none⟩) 32 32, .slice A10 n10 c10] 41) = wj at *
  have HFD := Lib.hid (HFD.out.and hfb (by simp))
  have hj := join_big w10.heap.size 4 [⟨A2, n2, c2, l2⟩, ⟨A5, n5, c5, l5⟩, ⟨some ⟨w.heap.size, 3, none⟩, 32, 32, x.h⟩, ⟨A10, n10, c10, l10⟩] wj hbb rfl (by omega) (by
    intro r hr
    simp only [List.mem_cons, List.not_mem_nil, or_false] at hr
    rcases hr with rfl | rfl | rfl | rfl
    · exact ⟨Fr.byk hfb HY2.out, HB2.out⟩
    · exact ⟨Fr.byk hfb HY5.out, HB5.out⟩
    · exact ⟨Fr.byk HFD.out HYH.out, by show 32 ≤ 20000; omega⟩
    · exact ⟨Fr.byk hfb HY10.out, HB10.out⟩)
  have hJ : joinL [⟨A2, n2, c2, l2⟩, ⟨A5, n5, c5, l5⟩, ⟨some ⟨w.heap.size, 3, none⟩, 32, 32, x.h⟩, ⟨A10, n10, c10, l10⟩] = x.bare := by
    simp only [joinL, List.map_cons, List.map_nil, List.flatten_cons, List.flatten_nil, HL2.out, HL5.out, HL10.out]
    simp [Wst.bare]
  rw [hJ] at hj
  obtain ⟨X, hX⟩ : ∃ X, X = x.bare := ⟨_, rfl⟩
  rw [← hX] at hj
  have HXT := Lib.hid hX
  clear hX
  have HJ := Lib.hid hj
  clear hfb hbb hj hJ HY2 HL2 HY5 HL5 HY10 HL10
  refine call_at (i := 12) (f := ?_) (args := ?_) rfl (by kernel_rfl) (by rfl) ?_ ?_
  rotate_left 2
  · go_simp
    (try (first | with_reducible rfl | (apply And.intro <;> rfl)))
  refine HJ.out.mono ?_
  rintro e wk ⟨Aj, cj, rfl, hN⟩
  have HN := Lib.hid (hN.from2 (HF0.out.and HFD.out (by simp)))
  refine ⟨_, rfl, hHeld.go hN.2.1 (by simp), fun hHeld => ?_⟩
  clear hN
  simp only [Act.put, List.setIfInBounds_toArray, List.set_cons_zero, List.set_cons_succ]
  refine run_at (i := 13) (v := ?_) rfl (by kernel_rfl) (by rfl) (fun _ _ _ h => h) hHeld (fun w1 hw1 => ?_) ?_
  rotate_left 1
  · skip
    go_simp
    (try (first | with_reducible rfl | (apply And.intro <;> rfl)))
  simp only [Act.put, List.setIfInBounds_toArray, List.set_cons_zero, List.set_cons_succ]
  refine wpAnyH_done (by kernel_rfl) ?_ _
  go_wp2
  go_ret
  rw [← HXT.out]
  exact ⟨Aj, cj, rfl, HN.out⟩
set_option maxHeartbeats 4000000 in
theorem refstampText_any (x : Wst) (hx : x.Ok) (C : List Value) (hC : x.cells = C) (w : World) :
    Calls Try.prog 23 #[.agg C.toArray] w fun e w' => ∃ A c, e = .returned (.slice A (x.text).length c) ∧ NewB w w' A (x.text).length c (x.text) := by
  obtain ⟨wa, hwa⟩ : ∃ wa, wa = w.alloc (Obj.cells C.toArray 45) := ⟨_, rfl⟩
  have hf0 : Fr [] w wa := by rw [hwa]; exact (Fr.refl [] w).alloc _
  have hb0 : Blk wa w.heap.size 45 x.cells.toArray := by rw [hwa, hC]; exact Blk.new _ _ _
  have HALL : Hid (wa.rangeAt w.heap.size 0 C) := Lib.hid (by rw [← hC]; exact hb0.range)
  have HLN : Hid (C.length = 38) := Lib.hid (by rw [← hC]; exact Wst.len hx.h)
  have HX := Lib.hid hx
  have HRC := Lib.hid hC
  clear hb0 hx hC
  have HF0 := Lib.hid hf0
  have HWA := Lib.hid hwa
  clear hwa hf0
  go_enter Try.func23, Try.ntmps23
  go_wp2
  rw [← HWA.out]
  refine wp_region_held_drew (S := Fr [] wa) (by kernel_rfl) (Fr.drew (Fr.refl _ wa)) (fun hHeld => ?_)
  have HFD : Hid (Fr [] wa wa.drew) := Lib.hid (Fr.drew (Fr.refl [] wa))
  generalize wa.drew = wd at *
  refine row_at (i := 3) rfl (by kernel_rfl) (by rfl) _ _ rfl _ _ rfl _ (fun w1 hw1 => hw1.range (HALL.out) (by first | (simp; done) | exact HNS.out | exact HNW.out | (intro hm; have hlt := HSB.out _ hm; (try dsimp only at hlt); omega))) (row_stamp.of HLN.out) (fun _ _ _ h => h) hHeld ?_
  simp only [Act.put, List.setIfInBounds_toArray, List.set_cons_zero, List.set_cons_succ]
  refine step_at (i := 0) rfl (by kernel_rfl) (by rfl) (fun K hK => ?_)
  refine wp_run (v := ?_) (w' := ?_) ?_ ?_
  rotate_left 2
  · go_simp
    (try (first | with_reducible rfl | (apply And.intro <;> rfl)))
  refine hK.out _ (wd.alloc (Obj.cells (wWst.map by8).toArray 5)) (hHeld.alloc _) (fun hHeld => ?_)
  clear hK K
  simp only [Act.put, List.setIfInBounds_toArray, List.set_cons_zero, List.set_cons_succ]
  have hconv := conv_const wd (wWst.map by8).toArray 5 5 wd.heap.size rfl
  have hyw : By (wd.alloc (Obj.cells (wWst.map by8).toArray 5 (5, 5 + 1))) (some ⟨wd.heap.size, 0, none⟩) 5 wWst := By.mark wd _ rfl _ _ _ wWst rfl
  have hfw : Fr [] wd (wd.alloc (Obj.cells (wWst.map by8).toArray 5 (5, 5 + 1))) := (Fr.refl [] wd).alloc _
  refine step_at (i := 1) rfl (by kernel_rfl) (by rfl) (fun K hK => ?_)
  refine wp_run (v := .slice (some ⟨wd.heap.size, 0, none⟩) 5 5) (w' := wd.alloc (Obj.cells (wWst.map by8).toArray 5 (5, 5 + 1))) ?_ ?_
  · have hrun := hconv
    go_simp
    (try (first | rfl | exact ⟨rfl, rfl⟩))
  refine hK.out _ _ ((HFD.out.and hfw (by simp)).mono (by simp)) (fun hHeld => ?_)
  clear hK K hconv
  simp only [Act.put, List.setIfInBounds_toArray, List.set_cons_zero, List.set_cons_succ]
  have HYW := Lib.hid hyw
  have HW1 := Lib.hid hfw
  have HFD := Lib.hid (HFD.out.and hfw (by simp))
  have HGW : Hid (wd.heap.size < (wd.alloc (Obj.cells (wWst.map by8).toArray 5 (5, 5 + 1))).heap.size) := Lib.hid (by show wd.heap.size < (wd.heap.push _).size; rw [Array.size_push]; omega)
  generalize wd.alloc (Obj.cells (wWst.map by8).toArray 5 (5, 5 + 1)) = wv at *
  clear hyw hfw
  refine call_at (i := 2) (f := ?_) (args := ?_) rfl (by kernel_rfl) (by rfl) ?_ ?_
  rotate_left 2
  · go_simp
    (try (first | with_reducible rfl | (apply And.intro <;> rfl)))
  refine (refrow_any (some ⟨wd.heap.size, 0, none⟩) 5 5 wWst wv HYW.out (fun k hk => by simp [bk] at hk; subst hk; exact HGW.out) (by omega)).mono ?_
  rintro e w2 ⟨A2, c2, rfl, hN⟩
  obtain ⟨n2, hn2⟩ : ∃ nn_, nn_ = (enc 5).length + 5 := ⟨_, rfl⟩
  obtain ⟨l2, hl2⟩ : ∃ ll_, ll_ = enc 5 ++ wWst := ⟨_, rfl⟩
  rw [← hn2] at hN ⊢
  rw [← hl2] at hN
  have HB2 : Hid (n2 ≤ 20000) := Lib.hid (by rw [hn2]; have := enc_ten (m := 5) (by omega); omega)
  have HL2 := Lib.hid hl2
  refine ⟨_, rfl, hHeld.go hN.2.1 (by simp), fun hHeld => ?_⟩
  simp only [Act.put, List.setIfInBounds_toArray, List.set_cons_zero, List.set_cons_succ]
  have HY2 := Lib.hid hN.by
  have HFD := Lib.hid (HFD.out.and hN.2.1 (by simp))
  clear hN hn2 hl2
  clear HYW HW1 HGW
  refine call_at (i := 4) (f := ?_) (args := ?_) rfl (by kernel_rfl) (by rfl) ?_ ?_
  rotate_left 2
  · go_simp
    (try (first | with_reducible rfl | (apply And.intro <;> rfl)))
  refine (refbare_any x HX.out C HRC.out w2).mono ?_
  rintro e w4 ⟨A4, c4, rfl, hN⟩
  obtain ⟨n4, hn4⟩ : ∃ nn_, nn_ = (x.bare).length := ⟨_, rfl⟩
  obtain ⟨l4, hl4⟩ : ∃ ll_, ll_ = x.bare := ⟨_, rfl⟩
  rw [← hn4] at hN ⊢
  rw [← hl4] at hN
  have HB4 : Hid (n4 ≤ 20000) := Lib.hid (by rw [hn4]; have := Wst.bare_len HX.out; omega)
  have HL4 := Lib.hid hl4
  refine ⟨_, rfl, hHeld.go hN.2.1 (by simp), fun hHeld => ?_⟩
  simp only [Act.put, List.setIfInBounds_toArray, List.set_cons_zero, List.set_cons_succ]
  have HY4 := Lib.hid hN.by
  have HFD := Lib.hid (HFD.out.and hN.2.1 (by simp))
  have HY2 := Lib.hid (Fr.byk hN.2.1 HY2.out)
  clear hN hn4 hl4
  refine step_at (i := 5) rfl (by kernel_rfl) (by rfl) (fun K hK => ?_)
  refine wp_run (v := ?_) (w' := ?_) ?_ ?_
  rotate_left 2
  · go_simp
    (try (first | with_reducible rfl | (apply And.intro <;> rfl)))
  refine hK.out _ (w4.alloc (Obj.cells #[.slice A2 n2 c2, .slice A4 n4 c4] 41)) (hHeld.alloc _) (fun hHeld => ?_)
  clear hK K
  simp only [Act.put, List.setIfInBounds_toArray, List.set_cons_zero, List.set_cons_succ]
  have hfb : Fr [] w4 (w4.alloc (Obj.cells #[.slice A2 n2 c2, .slice A4 n4 c4] 41)) := (Fr.refl [] w4).alloc _
  have hbb : Blk (w4.alloc (Obj.cells #[.slice A2 n2 c2, .slice A4 n4 c4] 41)) w4.heap.size 41 (([⟨A2, n2, c2, l2⟩, ⟨A4, n4, c4, l4⟩] : List RowV).map RowV.val).toArray := Blk.new _ _ _
  generalize w4.alloc (Obj.cells #[.slice A2 n2 c2, .slice A4 n4 c4] 41) = wj at *
  have HFD := Lib.hid (HFD.out.and hfb (by simp))
  have hj := join_big w4.heap.size 2 [⟨A2, n2, c2, l2⟩, ⟨A4, n4, c4, l4⟩] wj hbb rfl (by omega) (by
    intro r hr
    simp only [List.mem_cons, List.not_mem_nil, or_false] at hr
    rcases hr with rfl | rfl
    · exact ⟨Fr.byk hfb HY2.out, HB2.out⟩
    · exact ⟨Fr.byk hfb HY4.out, HB4.out⟩)
  have hJ : joinL [⟨A2, n2, c2, l2⟩, ⟨A4, n4, c4, l4⟩] = x.text := by
    simp only [joinL, List.map_cons, List.map_nil, List.flatten_cons, List.flatten_nil, HL2.out, HL4.out]
    simp [Wst.text, wWst]
  rw [hJ] at hj
  obtain ⟨X, hX⟩ : ∃ X, X = x.text := ⟨_, rfl⟩
  rw [← hX] at hj
  have HXT := Lib.hid hX
  clear hX
  have HJ := Lib.hid hj
  clear hfb hbb hj hJ HY2 HL2 HY4 HL4
  refine call_at (i := 6) (f := ?_) (args := ?_) rfl (by kernel_rfl) (by rfl) ?_ ?_
  rotate_left 2
  · go_simp
    (try (first | with_reducible rfl | (apply And.intro <;> rfl)))
  refine HJ.out.mono ?_
  rintro e wk ⟨Aj, cj, rfl, hN⟩
  have HN := Lib.hid (hN.from2 (HF0.out.and HFD.out (by simp)))
  refine ⟨_, rfl, hHeld.go hN.2.1 (by simp), fun hHeld => ?_⟩
  clear hN
  simp only [Act.put, List.setIfInBounds_toArray, List.set_cons_zero, List.set_cons_succ]
  refine run_at (i := 7) (v := ?_) rfl (by kernel_rfl) (by rfl) (fun _ _ _ h => h) hHeld (fun w1 hw1 => ?_) ?_
  rotate_left 1
  · skip
    go_simp
    (try (first | with_reducible rfl | (apply And.intro <;> rfl)))
  simp only [Act.put, List.setIfInBounds_toArray, List.set_cons_zero, List.set_cons_succ]
  refine wpAnyH_done (by kernel_rfl) ?_ _
  go_wp2
  go_ret
  rw [← HXT.out]
  exact ⟨Aj, cj, rfl, HN.out⟩
end Go.Proofs.Ytlkhfhhaallhgaa

namespace Go.Proofs.Ytlkhfhhaallhgaa
set_option maxRecDepth 100000
open Go.RowKit

theorem signed_info : (Try.prog.info? 90).map (fun i => (i.zero, i.size, i.bytes)) = some (some (.agg #[.int .i64 0, .string ByteArray.empty]), 2, 24) := by kernel_rfl
theorem mrk_at {l : List Ent} (hnd : l.Nodup) {i : Nat} {e : Ent} (hi : l[i]? = some e) : e ∈ l ∧ mrk l e = (i : Int) + 1 := by
  obtain ⟨hl, hg⟩ := List.getElem?_eq_some_iff.1 hi
  refine ⟨by rw [← hg]; exact List.getElem_mem hl, ?_⟩
  unfold mrk
  have hidx : l.idxOf e = i := by rw [← hg]; exact List.Nodup.idxOf_getElem hnd i hl
  rw [hidx]
  simp

set_option maxRecDepth 100000 in
set_option maxHeartbeats 2000000 in
theorem refsign_any (w : World) (S : List Nat) (g : Nat) (l : List Ent) (h : RBk w S g l) (hnd : l.Nodup) (x : Int) (A : Option Addr) (n c : Nat) (t : List UInt8) (hy : By w A n t) (hll : l.length < 1048576) :
    Calls Try.prog 22 #[.pointer (some ⟨g, 0, none⟩), .int .i64 x, .slice A n c] w fun e w' => e = .returned (.agg #[.int .i64 x, .int .i64 (mrk (sgn l (x, t)) (x, t))]) ∧
      ∃ S', RBk w' S' g (sgn l (x, t)) ∧ Fr S w w' ∧ ∀ y ∈ S', y < w.heap.size → y ∈ S := by
  have HB := Lib.hid h
  have HY := Lib.hid hy
  have HND := Lib.hid hnd
  have HL := Lib.hid hll
  clear h hy hnd hll
  have hfa : Fr [] w (w.alloc (Obj.cells #[.int .i64 0, .int .i64 0] 37)) := (Fr.refl [] w).alloc _
  have hba : Blk (w.alloc (Obj.cells #[.int .i64 0, .int .i64 0] 37)) w.heap.size 37 #[.int .i64 0, .int .i64 0] := Blk.new _ _ _
  have HB1 := Lib.hid (HB.out.keep hfa (by simp))
  have HY1 := Lib.hid (HY.out.keep hfa (by simp))
  have HG0 := Lib.hid (show ¬ g = w.heap.size by have := HB.out.lt g (by obtain ⟨_, _, rfl, _⟩ := HB.out; simp); omega)
  have HGS := Lib.hid (show ¬ w.heap.size ∈ S from fun hh => by have := HB.out.lt _ hh; omega)
  have HFIN := Lib.hid (show ∀ w', Fr (w.heap.size :: S) (w.alloc (Obj.cells #[.int .i64 0, .int .i64 0] 37)) w' → Fr S w w' from fun w' h => (hfa.mono (T := S) (by simp)).trans h (by intro y hy hl; simp at hy; rcases hy with rfl | hy; exact absurd hl (by omega); exact hy))
  have HSZ := Lib.hid (show w.heap.size < (w.alloc (Obj.cells #[.int .i64 0, .int .i64 0] 37)).heap.size by simp)
  have HBA := Lib.hid hba
  have HSS := Lib.hid (show ∀ y, y < w.heap.size → y < (w.alloc (Obj.cells #[.int .i64 0, .int .i64 0] 37)).heap.size by intro y h; simp; omega)
  obtain ⟨A0, c0, hS, hcb, hcells⟩ := HB1.out.cells
  have HCS := Lib.hid hcells
  have HHS := Lib.hid hS
  have hconv := fun k : Nat => conv_text A n c t ((w.alloc (Obj.cells #[.int .i64 0, .int .i64 0] 37)).drewN k) (HY1.out.drewN k)
  clear hcells hfa hba HB HY hS
  go_enter Try.func22, Try.ntmps22
  go_wp2
  generalize w.alloc (Obj.cells #[.int .i64 0, .int .i64 0] 37) = wa at *
  generalize hgs : w.heap.size = gs at *
  have HGE := Lib.hid hgs
  clear hgs
  have hs0 := HBA.out.cell 0
  have hs1 := HBA.out.cell 1
  have hz0 := HBA.out.frozen 0
  have hz1 := HBA.out.frozen 1
  simp at hs0 hs1
  go_loopw [13] (fun i wr => ∃ (k q : Nat), k ≤ l.length ∧ i = .int .i64 k ∧ wr = wa.drewN q ∧ Hid (∀ j, j < k → l[j]? ≠ some (x, t))) (fun i _ => l.length - (intOf i).toNat)
  case atStart => exact ⟨0, 0, by omega, rfl, rfl, Lib.hid (by intro j hj; omega)⟩
  case round =>
    obtain ⟨k, q, hk, rfl, rfl, HNO⟩ := hrel
    by_cases hlt : k < l.length
    · have hn1 : (l.length : Int) ≤ 9223372036854775807 := by have := HL.out; omega
      have hge : l[k]? = some l[k] := List.getElem?_eq_getElem hlt
      generalize l[k] = e at *
      obtain ⟨gq, rfl, hca, hcs⟩ := HCS.out k e hge
      obtain ⟨x', t'⟩ := e
      simp only at hca hcs
      have hi0 : (0 : Int) ≤ k := by omega
      by_cases hx : x' = x
      · subst hx
        have hxe : (x' == x') = true := by simp
        by_cases ht : t' = t
        · subst ht
          have hte : (t' == t') = true := by simp
          have HMK := Lib.hid (mrk_at HND.out hge)
          have hk1 : IntKind.i64.wrap ((k : Int) + 1) = (k : Int) + 1 := IntWalk.i64_in _ (by have := HL.out; omega)
          clear hge
          go_wp2
          go_quiet (fail)
          go_wp2
          have hbf := ((HBA.out.drewN (q + nq)).set 0 (.int .i64 x')).set 1 (.int .i64 ((k : Int) + 1))
          have hfr : Fr [gs] wa _ := (((Fr.refl [gs] wa).drewN (q + nq)).setCell ⟨gs, 0, none⟩ (by simp) (.int .i64 x')).setCell ⟨gs, 1, none⟩ (by simp) (.int .i64 ((k : Int) + 1))
          have hbw := HB1.out.keep hfr (fun y hy hm => HGS.out (by simp at hm; rw [← hm]; exact hy))
          have hff := HFIN.out _ ((((Fr.refl (gs :: S) wa).drewN (q + nq)).setCell ⟨gs, 0, none⟩ (by simp) (.int .i64 x')).setCell ⟨gs, 1, none⟩ (by simp) (.int .i64 ((k : Int) + 1)))
          generalize ((wa.drewN (q + nq)).setCell ⟨gs, 0, none⟩ (.int .i64 x')).setCell ⟨gs, 1, none⟩ (.int .i64 ((k : Int) + 1)) = wf at *
          have hf0 := hbf.cell 0
          have hf1 := hbf.cell 1
          simp at hf0 hf1
          have hm1 := HMK.out.1
          have e1 : sgn l (x', t') = l := if_pos hm1
          refine bodyPost_ret (v := .agg #[.int .i64 x', .int .i64 ((k : Int) + 1)]) (by simp [results, Try.results22, go_sem, hf0, hf1]) rfl ⟨by rw [e1, HMK.out.2], S, ?_, hff, fun y hy _ => hy⟩
          rw [e1]
          exact hbw
        · have hte : (t' == t) = false := by simp [ht]
          go_wp2
          go_quiet (fail)
          go_wp2
          go_roundw
          case rel =>
            refine ⟨k + 1, q + nq, by omega, by go_num, rfl, Lib.hid fun j hj => ?_⟩
            rcases Nat.lt_or_ge j k with h | h
            · exact HNO.out j h
            · have e : j = k := by omega
              subst e
              rw [hge]
              simp [ht]
          case measure => simp [intOf]; omega
      · have hxe : (x' == x) = false := by simp [hx]
        go_wp2
        go_quiet (fail)
        go_wp2
        go_roundw
        case rel =>
          refine ⟨k + 1, q + nq, by omega, by go_num, rfl, Lib.hid fun j hj => ?_⟩
          rcases Nat.lt_or_ge j k with h | h
          · exact HNO.out j h
          · have e : j = k := by omega
            subst e
            rw [hge]
            simp [hx]
        case measure => simp [intOf]; omega
    · have hkl : k = l.length := by omega
      subst hkl
      have hn1 : (l.length : Int) ≤ 9223372036854775807 := by have := HL.out; omega
      have hnm : ¬ (x, t) ∈ l := by
        intro hm
        obtain ⟨j, hj, he⟩ := List.getElem_of_mem hm
        exact HNO.out j hj (by rw [List.getElem?_eq_getElem hj, he])
      have HNM := Lib.hid hnm
      clear HNO hnm
      obtain ⟨i, hi0, hz0', hz1', hz2'⟩ := info_parts signed_info
      obtain ⟨A0', c0', hS2, hb, ho⟩ := HB1.out
      have hcb2 := hb.cell 0
      simp at hcb2
      rw [hcb] at hcb2
      injection hcb2 with hcb2
      injection hcb2 with hA1 _ hC1
      subst hA1
      subst hC1
      have HSB := Lib.hid hS2
      have HB := Lib.hid hb
      have HO := Lib.hid ho
      have HNG := Lib.hid (own_ne ho hb (by decide))
      have HNS := Lib.hid (show (Value.slice A0 l.length c0).ownBlock ≠ some gs from fun e => HGS.out (by rw [hS2]; rw [bk_mem] at e; simp [e]))
      have hcbw := (hb.keep (((Fr.refl [] wa).drewN (q + 1)).alloc (Obj.cells #[.int .i64 x, .string ⟨t.toArray⟩] 90)) (by simp)).cell 0
      generalize hww : (wa.drewN (q + 1)).alloc (Obj.cells #[.int .i64 x, .string ⟨t.toArray⟩] 90) = ww at hcbw
      simp at hcbw
      rw [← hww] at hcbw
      clear hS2 hb ho hs0 hs1 hz0 hz1 hww
      go_wp2
      go_region_law (first
        | (refine step_append_lies _ rfl (.tmp 48) (.tmp 53) _ rfl 0 90 i (.agg #[.int .i64 0, .string ByteArray.empty]) 2 24 Try.underlying65 hi0 hz0' hz1' hz2' rfl (by omega) (.slice A0 l.length c0) l.length (l.flatMap ecells) rfl (own_keep HO.out (((Fr.refl [] wa).drewN (q + 1)).alloc _) (by simp)) ⟨wa.heap.size, 0, none⟩ 1 1 (ecells (x, t)) rfl rfl ?_ ?_ (by omega) (by have := HL.out; simp only [maxLen]; omega) (by have := HL.out; omega) (Nat.zero_le _) _ rfl ?_
           · intro j u hj
             have hbb : Blk ((wa.drewN (q + 1)).alloc (Obj.cells #[.int .i64 x, .string ⟨t.toArray⟩] 90)) wa.heap.size 90 #[.int .i64 x, .string ⟨t.toArray⟩] := Blk.new _ _ _
             have hadd : (⟨wa.heap.size, 0, none⟩ : Addr).add j = ⟨wa.heap.size, j, none⟩ := by unfold Addr.add; split <;> simp_all
             rw [hadd]
             have := hbb.cell j
             rw [this, ← hj]
             simp [ecells]
           · intro u hu
             simp [ecells] at hu
             rcases hu with rfl | rfl <;> rfl
           intro g1 c1 w1 ho1 hgr1 hat1 hlt1
           have hfw : Fr [] wa ((wa.drewN (q + 1)).alloc (Obj.cells #[.int .i64 x, .string ⟨t.toArray⟩] 90)) := ((Fr.refl [] wa).drewN (q + 1)).alloc _
           have hf1 : Fr S wa w1 := (hfw.mono (T := S) (by simp)).grown hgr1 (fun k hk _ => by rw [HSB.out]; rw [bk_mem] at hk; simp [hk])
           have hb1 := (HB.out.keep hfw (by simp)).grown hgr1 HNG.out
           have hs1 := (HBA.out.keep hfw (by simp)).grown hgr1 HNS.out
           have hzg := hb1.frozen 0
           have hcg := hb1.cell 0
           have hne1 : ¬ g = gs := HG0.out
           have hne2 : ¬ gs = g := fun e => HG0.out e.symm
           have hs2 := hs1.keep ((Fr.refl [g] w1).setCell ⟨g, 0, none⟩ (by simp) (.slice (some ⟨g1, 0, none⟩) (l.length + 1) c1)) (by simpa using hne2)
           have hb2 := hb1.set 0 (.slice (some ⟨g1, 0, none⟩) (l.length + 1) c1)
           generalize hw2 : w1.setCell ⟨g, 0, none⟩ (.slice (some ⟨g1, 0, none⟩) (l.length + 1) c1) = w2 at hs2 hb2
           have hc0 := hs2.cell 0
           have hc1 := hs2.cell 1
           have hz0 := hs2.frozen 0
           have hz1 := hs2.frozen 1
           have hc2 := hb2.cell 0
           simp at hcg hc0 hc1 hc2
           rw [← hw2] at hc0 hc1 hz0 hz1 hc2
           clear hs2 hb2 hw2
           have HF1 := Lib.hid hf1
           have HB1' := Lib.hid hb1
           have HS1' := Lib.hid hs1
           have HO1 := Lib.hid ho1
           have HG1 := Lib.hid (show g1 ≠ gs ∧ (g1 < gs → g1 ∈ S) from by
             rcases hat1 with h | h
             · refine ⟨fun e => HNS.out (by rw [h, e]), fun _ => ?_⟩
               rw [HSB.out]
               rw [bk_mem] at h
               simp [h]
             · have := HSZ.out
               simp at h
               exact ⟨by omega, fun hl => by omega⟩)
           clear hf1 hb1 hs1 ho1 hat1 hgr1 hlt1 hfw hcb hcbw))
      all_goals
        have HB2 := Lib.hid (HB1'.out.set 0 (.slice (some ⟨g1, 0, none⟩) (l.length + 1) c1))
        have hf2 : Fr [g] w1 (w1.setCell ⟨g, 0, none⟩ (.slice (some ⟨g1, 0, none⟩) (l.length + 1) c1)) := (Fr.refl _ _).setCell _ (by simp) _
        have HS2 := Lib.hid (HS1'.out.keep hf2 (by simpa using hne2))
        have HF2 := Lib.hid ((HF1.out.setCell ⟨g, 0, none⟩ (fun _ => by rw [HSB.out]; simp) (.slice (some ⟨g1, 0, none⟩) (l.length + 1) c1)))
        have HNE1 := Lib.hid (own_ne HO1.out HB1'.out (by decide))
        have HO2 := Lib.hid (own_keep HO1.out hf2 (fun k hk hm => HNE1.out (by simp at hm; rw [hk, hm])))
        clear hf2 HF1 HB1' HS1' HO1 hcg hzg
        generalize w1.setCell ⟨g, 0, none⟩ (.slice (some ⟨g1, 0, none⟩) (l.length + 1) c1) = w2 at *
        go_wp2
        have hbf := (HS2.out.set 0 (.int .i64 x)).set 1 (.int .i64 ((l.length : Int) + 1))
        have hf3 : Fr [gs] w2 ((w2.setCell ⟨gs, 0, none⟩ (.int .i64 x)).setCell ⟨gs, 1, none⟩ (.int .i64 ((l.length : Int) + 1))) := (((Fr.refl _ _).setCell _ (by simp) _).setCell _ (by simp) _)
        have hff := HFIN.out _ ((HF2.out.mono (T := gs :: S) (fun k hk _ => by simp [hk])).trans hf3 (by simp))
        have hb3 := HB2.out.keep hf3 (by simpa using hne1)
        have ho3 := own_keep HO2.out hf3 (fun k hk hm => HG1.out.1 (by simp at hm; subst hm; simpa [Value.ownBlock] using hk))
        generalize (w2.setCell ⟨gs, 0, none⟩ (.int .i64 x)).setCell ⟨gs, 1, none⟩ (.int .i64 ((l.length : Int) + 1)) = wf at *
        have hf0 := hbf.cell 0
        have hf1 := hbf.cell 1
        simp at hf0 hf1
        have e1 : sgn l (x, t) = l ++ [(x, t)] := if_neg HNM.out
        refine bodyPost_ret (v := .agg #[.int .i64 x, .int .i64 ((l.length : Int) + 1)]) (by simp [results, Try.results22, go_sem, hf0, hf1]) rfl ⟨by rw [e1, mrk_new HNM.out]; rfl, [g, g1], ?_, hff, ?_⟩
        · rw [e1]
          refine ⟨some ⟨g1, 0, none⟩, c1, rfl, ?_, ?_⟩
          · simpa using hb3
          · simpa using ho3
        · intro y hy hl
          rw [HGE.out] at hl
          simp at hy
          rcases hy with rfl | rfl
          · rw [HSB.out]; simp
          · exact HG1.out.2 hl
end Go.Proofs.Ytlkhfhhaallhgaa

namespace Go.Proofs.Ytlkhfhhaallhgaa
open Go.RowKit
set_option maxRecDepth 100000

set_option maxHeartbeats 2000000 in
theorem refmake_any (c s : Int) (hc : 0 ≤ c ∧ c < 1099511627776) (hs : i64In s) (h : List UInt8) (hh : h.length = 32) (A : Option Addr) (n cap : Nat) (b : List UInt8) (w : World)
    (hb : By w A n b) (hA : ∀ k ∈ bk A, k < w.heap.size) (hn : n ≤ 1000) (Sb : List Nat) (gb : Nat) (l : List Ent) (hbk : RBk w Sb gb l) (hnd : l.Nodup) (hl : l.length < 1048576) :
    Calls Try.prog 19 #[.pointer (some ⟨gb, 0, none⟩), .agg #[.int .i64 c, .int .i64 s], .agg (h.map by8).toArray, .slice A n cap] w fun e w' => e = .returned (made c s h b l).val ∧
      ∃ S', RBk w' S' gb (sgn l (1000 + c, (made0 c s h b).text)) ∧ Fr Sb w w' ∧ ∀ y ∈ S', y < w.heap.size → y ∈ Sb := by
  obtain ⟨wa, hwa⟩ : ∃ wa, wa = ((w.alloc (Obj.cells #[.int .i64 c, .int .i64 s] 23)).alloc (Obj.cells (h.map by8).toArray 35)).alloc (Obj.cells zeroCm 39) := ⟨_, rfl⟩
  have hf0 : Fr [] w wa := by rw [hwa]; exact (((Fr.refl [] w).alloc _).alloc _).alloc _
  have hb1 : Blk wa w.heap.size 23 #[.int .i64 c, .int .i64 s] := by rw [hwa]; exact blk_alloc (blk_alloc (Blk.new _ _ _))
  have hb2 : Blk wa (w.heap.size + 1) 35 (h.map by8).toArray := by
    have := blk_alloc (t' := 39) (cs' := zeroCm) (Blk.new (w.alloc (Obj.cells #[.int .i64 c, .int .i64 s] 23)) 35 (h.map by8).toArray)
    rw [hwa]
    simpa using this
  have hb3 : Blk wa (w.heap.size + 2) 39 zeroCm := by
    have := Blk.new ((w.alloc (Obj.cells #[.int .i64 c, .int .i64 s] 23)).alloc (Obj.cells (h.map by8).toArray 35)) 39 zeroCm
    rw [hwa]
    simpa using this
  have HR1 := Lib.hid hb1.range
  have HC1 : Hid (wa.cell? ⟨w.heap.size, 0, none⟩ = some (.int .i64 c)) := Lib.hid (hb1.cell 0)
  have HR2 := Lib.hid hb2.range
  have HB3 := Lib.hid hb3
  have HF0 := Lib.hid hf0
  have HWA := Lib.hid hwa
  have HSB : Hid (∀ k ∈ Sb, k < w.heap.size) := Lib.hid hbk.lt
  have HBK := Lib.hid (hbk.keep hf0 (by simp))
  have HB := Lib.hid (hb.keep hf0 (by simp))
  have HBN := Lib.hid hb.1
  have HA : Hid (∀ k ∈ bk A, k < wa.heap.size) := Lib.hid (fun k hk => by have := hA k hk; have := hf0.size; omega)
  have HND := Lib.hid hnd
  have HH := Lib.hid hh
  have HC := Lib.hid hc
  have HS := Lib.hid hs
  have HL := Lib.hid hl
  clear hb1 hb2 hb3 hf0 hwa hb hA hnd hh hc hs hbk hl
  have hof := fun W (hW : Fr [] wa W) => refof_any c s (by have := HC.out; omega) (by have := HC.out; omega) HS.out.1 HS.out.2 h HH.out A n cap b W (HB.out.keep hW (by simp)) (fun k hk => by have := HA.out k hk; have := hW.size; omega) hn
  have hbuilt := built_commit c s n (sumL (ofL c s h b)) (sumL_len _)
  have hx0 : (Cm.mk c s (sumL (ofL c s h b)) n 0 0) = made0 c s h b := by unfold made0; rw [HBN.out]
  rw [hx0] at hbuilt
  generalize hH : ((sumL (ofL c s h b)).map by8).toArray = H at *
  have hok0 : (made0 c s h b).Ok := ⟨⟨by have := HC.out; show _ ≤ c; omega, by have := HC.out; show c < _; omega⟩, HS.out, sumL_len _, ⟨by show _ ≤ ((b.length : Nat) : Int); omega, by have := HBN.out; show ((b.length : Nat) : Int) < _; omega⟩, ⟨by show _ ≤ (0 : Int); decide, by show (0 : Int) < _; decide⟩, ⟨by show _ ≤ (0 : Int); decide, by show (0 : Int) < _; decide⟩⟩
  have hcl := Cm.len hok0.h
  have hall := Cm.all (made0 c s h b)
  have hval : (made c s h b l).val = .agg (Cm.cells ⟨c, s, (made0 c s h b).h, (made0 c s h b).n, 1000 + c, mrk (sgn l (1000 + c, (made0 c s h b).text)) (1000 + c, (made0 c s h b).text)⟩).toArray := rfl
  have HVAL := Lib.hid hval
  have hx0c : (made0 c s h b).c = c := rfl
  have hx0s : (made0 c s h b).s = s := rfl
  have HX0S := Lib.hid hx0s
  have HX0C := Lib.hid hx0c
  have HOF := Lib.hid hof
  have HBUILT := Lib.hid hbuilt
  have HOK := Lib.hid hok0
  have HCL := Lib.hid hcl
  have HALL := Lib.hid hall
  clear hof hbuilt hx0 hok0 hcl hH hall hval hx0c hx0s
  generalize made0 c s h b = x0 at *
  go_enter Try.func19, Try.ntmps19
  go_upto_region 1 with (fail)
  change Code.wp _ _ _ _ (((w.alloc (Obj.cells #[.int .i64 c, .int .i64 s] 23)).alloc (Obj.cells (h.map by8).toArray 35)).alloc (Obj.cells zeroCm 39))
  rw [← HWA.out]
  refine wp_region_held_drew (S := Fr [] wa) (by kernel_rfl) (Fr.drew (Fr.refl _ wa)) (fun hHeld => ?_)
  refine row_at (i := 0) rfl (by kernel_rfl) (by rfl) _ _ rfl _ _ rfl _ (fun w1 hw1 => hw1.range (HR1.out) (by first | (simp; done) | exact HNS.out | exact HNW.out | (intro hm; have hlt := HSB.out _ hm; (try dsimp only at hlt); omega))) (row_name) (fun _ _ _ h => h) hHeld ?_
  simp only [Act.put, List.setIfInBounds_toArray, List.set_cons_zero, List.set_cons_succ]
  refine row_at (i := 1) rfl (by kernel_rfl) (by rfl) _ _ rfl _ _ rfl _ (fun w1 hw1 => hw1.range (HR1.out) (by first | (simp; done) | exact HNS.out | exact HNW.out | (intro hm; have hlt := HSB.out _ hm; (try dsimp only at hlt); omega))) (row_name) (fun _ _ _ h => h) hHeld ?_
  simp only [Act.put, List.setIfInBounds_toArray, List.set_cons_zero, List.set_cons_succ]
  refine row_at (i := 2) rfl (by kernel_rfl) (by rfl) _ _ rfl _ _ rfl _ (fun w1 hw1 => hw1.range (HR2.out) (by first | (simp; done) | exact HNS.out | exact HNW.out | (intro hm; have hlt := HSB.out _ hm; (try dsimp only at hlt); omega))) (row_hash.of (by rw [List.length_map]; exact HH.out)) (fun _ _ _ h => h) hHeld ?_
  simp only [Act.put, List.setIfInBounds_toArray, List.set_cons_zero, List.set_cons_succ]
  refine run_at (i := 3) (v := ?_) rfl (by kernel_rfl) (by rfl) (fun _ _ _ h => h) hHeld (fun w1 hw1 => ?_) ?_
  rotate_left 1
  · skip
    go_simp
    (try (first | with_reducible rfl | (apply And.intro <;> rfl)))
  simp only [Act.put, List.setIfInBounds_toArray, List.set_cons_zero, List.set_cons_succ]
  refine run_at (i := 5) (v := ?_) rfl (by kernel_rfl) (by rfl) (fun _ _ _ h => h) hHeld (fun w1 hw1 => ?_) ?_
  rotate_left 1
  · skip
    go_simp
    (try (first | with_reducible rfl | (apply And.intro <;> rfl)))
  simp only [Act.put, List.setIfInBounds_toArray, List.set_cons_zero, List.set_cons_succ]
  refine run_at (i := 6) (v := ?_) rfl (by kernel_rfl) (by rfl) (fun _ _ _ h => h) hHeld (fun w1 hw1 => ?_) ?_
  rotate_left 1
  · skip
    go_simp
    (try (first | with_reducible rfl | (apply And.intro <;> rfl)))
  simp only [Act.put, List.setIfInBounds_toArray, List.set_cons_zero, List.set_cons_succ]
  refine two_at (i := 4) (j := 8) rfl rfl (by kernel_rfl) (by rfl) (by rfl) (fun K hK => ?_) (fun K hK => ?_)
  focus
    refine wp_call (f := ?_) (args := ?_) ?_ ?_
    rotate_left 2
    · go_simp
      (try (first | with_reducible rfl | (apply And.intro <;> rfl)))
    refine (HOF.out _ hHeld).mono ?_
    rintro e w1 ⟨rfl, hf1⟩
    refine ⟨_, rfl, hK.out _ _ (hHeld.and hf1 (by simp)) (fun hHeld => ?_)⟩
    clear hK K
    simp only [Act.put, List.setIfInBounds_toArray, List.set_cons_zero, List.set_cons_succ]
    refine build_at (i := 7) rfl (by kernel_rfl) (by rfl) _ _ rfl _ _ (HBUILT.out) rfl (fun _ _ _ h => h) hHeld ?_
    simp only [Act.put, List.setIfInBounds_toArray, List.set_cons_zero, List.set_cons_succ]
    refine step_at (i := 8) rfl (by kernel_rfl) (by rfl) (fun K hK => ?_)
    refine wp_run (v := ?_) (w' := ?_) ?_ ?_
    rotate_left 2
    · go_simp
      (try (first | with_reducible rfl | (apply And.intro <;> rfl)))
    refine hK.out _ (w1.alloc (Obj.cells zeroCm 39)) (hHeld.alloc _) (fun hHeld => ?_)
    clear hK K
    simp only [Act.put, List.setIfInBounds_toArray, List.set_cons_zero, List.set_cons_succ]
    have HB9 := Lib.hid (Blk.new w1 39 zeroCm)
    have HG9 : Hid (wa.heap.size ≤ w1.heap.size) := Lib.hid (by have := hf1.size; exact this)
    generalize w1.alloc (Obj.cells zeroCm 39) = w2 at *
    generalize w1.heap.size = g9 at *
    clear hf1
  rotate_left
  focus
    refine wp_run (v := ?_) (w' := ?_) ?_ ?_
    rotate_left 2
    · go_simp
      (try (first | with_reducible rfl | (apply And.intro <;> rfl)))
    refine hK.out _ (wa.drew.alloc (Obj.cells zeroCm 39)) (hHeld.alloc _) (fun hHeld => ?_)
    clear hK K
    simp only [Act.put, List.setIfInBounds_toArray, List.set_cons_zero, List.set_cons_succ]
    refine call_at (i := 4) (f := ?_) (args := ?_) rfl (by kernel_rfl) (by rfl) ?_ ?_
    rotate_left 2
    · go_simp
      (try (first | with_reducible rfl | (apply And.intro <;> rfl)))
    refine (HOF.out _ hHeld).mono ?_
    rintro e w2 ⟨rfl, hf1⟩
    have HB9 : Hid (Blk w2 wa.heap.size 39 zeroCm) := Lib.hid ((Blk.new wa.drew 39 zeroCm).keep hf1 (by simp))
    refine ⟨_, rfl, hHeld.and hf1 (by simp), fun hHeld => ?_⟩
    clear hf1
    simp only [Act.put, List.setIfInBounds_toArray, List.set_cons_zero, List.set_cons_succ]
    refine build_at (i := 7) rfl (by kernel_rfl) (by rfl) _ _ rfl _ _ (HBUILT.out) rfl (fun _ _ _ h => h) hHeld ?_
    simp only [Act.put, List.setIfInBounds_toArray, List.set_cons_zero, List.set_cons_succ]
    obtain ⟨g9, hg9⟩ : ∃ g9, g9 = wa.heap.size := ⟨_, rfl⟩
    have HG9 : Hid (wa.heap.size ≤ g9) := Lib.hid (by rw [hg9]; exact Nat.le_refl _)
    rw [← hg9] at HB9 ⊢
    clear hg9
  all_goals
    refine step_at (i := 9) rfl (by kernel_rfl) (by rfl) (fun K hK => ?_)
    refine wp_store_blk 39 _ _ rfl g9 x0.cells.toArray rfl rfl 39 zeroCm HB9.out (by rw [List.size_toArray, HCL.out]; kernel_rfl) ((show zeroCm.size = 37 from rfl).trans (by rw [List.size_toArray, HCL.out])) HALL.out ?_
    intro w3 hb3 hf3
    refine hK.out _ _ (hHeld.go hf3 (by have := HG9.out; simpa using this)) (fun hHeld => ?_)
    clear hK K
    simp only [Act.put, List.setIfInBounds_toArray, List.set_cons_zero, List.set_cons_succ]
    refine wpAnyH_done (by kernel_rfl) ?_ _
    have HX9 := Lib.hid hb3
    have HF3 := Lib.hid hHeld
    clear hb3 hf3 HB9
    have hat := Cm.at_blk HX9.out HOK.out.h
    have HAT := Lib.hid hat
    have hwr : IntKind.i64.wrap (1000 + c) = 1000 + c := IntWalk.i64_in _ (by have := HC.out; omega)
    have HNS : Hid (¬ g9 ∈ Sb) := Lib.hid (fun hm => by have := HSB.out _ hm; have := HG9.out; have := HF0.out.size; omega)
    have HNW : Hid (¬ w.heap.size ∈ g9 :: Sb) := Lib.hid (fun hm => by
      have h1 := HB3.out.lt
      have h2 := HG9.out
      rcases List.mem_cons.1 hm with hm | hm
      · omega
      · have := HSB.out _ hm; omega)
    have HT := Lib.hid (fun W => reftext_any x0 HOK.out W)
    have HTL := Lib.hid (x0.text_len HOK.out)
    clear hat
    unfold Cm.val at HT
    go_upto_region 2 with (fail)
    refine wp_region_held_drew (S := Fr (g9 :: Sb) w3) (by kernel_rfl) (Fr.drew (Fr.refl _ w3)) (fun hHeld => ?_)
    refine run_at (i := 0) (v := ?_) rfl (by kernel_rfl) (by rfl) (fun _ _ _ h => h) hHeld (fun w1 hw1 => ?_) ?_
    rotate_left 1
    · skip
      go_simp
      (try (first | with_reducible rfl | (apply And.intro <;> rfl)))
    simp only [Act.put, List.setIfInBounds_toArray, List.set_cons_zero, List.set_cons_succ]
    refine run_at (i := 1) (v := ?_) rfl (by kernel_rfl) (by rfl) (fun _ _ _ h => h) hHeld (fun w1 hw1 => ?_) ?_
    rotate_left 1
    · skip
      go_simp
      (try (first | with_reducible rfl | (apply And.intro <;> rfl)))
    simp only [Act.put, List.setIfInBounds_toArray, List.set_cons_zero, List.set_cons_succ]
    refine run_at (i := 2) (v := ?_) rfl (by kernel_rfl) (by rfl) (fun _ _ _ h => h) hHeld (fun w1 hw1 => ?_) ?_
    rotate_left 1
    · skip
      have hcw0 := hw1.cell (HF3.out.cell HC1.out (by simp)) (by first | (simp; done) | exact HNS.out | exact HNW.out | (intro hm; have hlt := HSB.out _ hm; (try dsimp only at hlt); omega))
      go_simp
      (try (first | with_reducible rfl | (apply And.intro <;> rfl)))
    simp only [Act.put, List.setIfInBounds_toArray, List.set_cons_zero, List.set_cons_succ]
    refine run_at (i := 3) (v := ?_) rfl (by kernel_rfl) (by rfl) (fun _ _ _ h => h) hHeld (fun w1 hw1 => ?_) ?_
    rotate_left 1
    · skip
      go_simp
      (try (first | with_reducible rfl | (apply And.intro <;> rfl)))
    simp only [Act.put, List.setIfInBounds_toArray, List.set_cons_zero, List.set_cons_succ]
    refine step_at (i := 4) rfl (by kernel_rfl) (by rfl) (fun K hK => ?_)
    refine wp_row _ _ rfl _ _ rfl _ (HAT.out.all) (row_commit.of HCL.out) ?_
    refine hK.out _ _ hHeld (fun hHeld => ?_)
    clear hK K
    simp only [Act.put, List.setIfInBounds_toArray, List.set_cons_zero, List.set_cons_succ]
    refine call_at (i := 5) (f := ?_) (args := ?_) rfl (by kernel_rfl) (by rfl) ?_ ?_
    rotate_left 2
    · go_simp
      (try (first | with_reducible rfl | (apply And.intro <;> rfl)))
    have h := HT.out w3.drew
    have hsg := fun W (hW : Fr [] w3 W) A' n' c' (t : List UInt8) (hy : By W A' n' t) => refsign_any W Sb gb l ((HBK.out.keep HF3.out (by simp)).keep hW (by simp)) HND.out (1000 + c) A' n' c' t hy HL.out
    have HSG := Lib.hid hsg
    clear hsg
    generalize hXT : x0.text = X at *
    have HXT := Lib.hid hXT
    clear hXT
    refine h.mono ?_
    rintro e w4 ⟨A4, c4, rfl, hn4⟩
    have HF4 : Hid (Fr [] w3 w4) := Lib.hid ((Fr.drew (Fr.refl [] w3)).and hn4.2.1 (by simp))
    refine ⟨_, rfl, HF4.out.mono (by simp), fun hHeld => ?_⟩
    have HN4 := Lib.hid hn4
    clear hn4 h
    simp only [Act.put, List.setIfInBounds_toArray, List.set_cons_zero, List.set_cons_succ]
    refine call_at (i := 6) (f := ?_) (args := ?_) rfl (by kernel_rfl) (by rfl) ?_ ?_
    rotate_left 2
    · go_simp
      (try (first | with_reducible rfl | (apply And.intro <;> rfl)))
    refine (HSG.out w4 HF4.out A4 _ c4 X HN4.out.by).mono ?_
    generalize mrk (sgn l (1000 + c, X)) (1000 + c, X) = mk at *
    rintro e w5 ⟨rfl, S', hb5, hf5, hs5⟩
    refine ⟨_, rfl, hHeld.trans hf5 (fun x hx _ => List.mem_cons_of_mem _ hx), fun hHeld => ?_⟩
    have HB5 := Lib.hid hb5
    have HLT4 : Hid (g9 < w4.heap.size ∧ w.heap.size + 2 < w4.heap.size) := Lib.hid ⟨by have := HX9.out.lt; have := HF4.out.size; omega, by have := HB3.out.lt; have := HF3.out.size; have := HF4.out.size; omega⟩
    have HS5 := Lib.hid hs5
    have HSW : Hid (w.heap.size ≤ w4.heap.size) := Lib.hid (by have := HF0.out.size; have := HF3.out.size; have := HF4.out.size; omega)
    clear hs5
    have HF5 := Lib.hid (HF4.out.mono (T := Sb) (by simp) |>.trans hf5 (fun x hx _ => hx))
    have HX5 := Lib.hid ((HX9.out.keep HF4.out (by simp)).keep hf5 HNS.out)
    clear hb5 hf5 HN4
    simp only [Act.put, List.setIfInBounds_toArray, List.set_cons_zero, List.set_cons_succ]
    refine run_at (i := 7) (v := ?_) rfl (by kernel_rfl) (by rfl) (fun _ _ _ h => h) hHeld (fun w1 hw1 => ?_) ?_
    rotate_left 1
    · skip
      go_simp
      (try (first | with_reducible rfl | (apply And.intro <;> rfl)))
    simp only [Act.put, List.setIfInBounds_toArray, List.set_cons_zero, List.set_cons_succ]
    refine step_at (i := 8) rfl (by kernel_rfl) (by rfl) (fun K hK => ?_)
    refine wp_store_mid 37 _ _ rfl g9 35 #[.int .i64 (1000 + c), .int .i64 mk] rfl rfl (HX5.out.there 35 2 (by rw [List.size_toArray, HCL.out]; omega)) (by kernel_rfl) (by kernel_rfl) ?_
    have hb6 := (HX5.out.set 35 (.int .i64 (1000 + c))).set 36 (.int .i64 mk)
    rw [show x0.cells.toArray = (Cm.cells ⟨c, s, x0.h, x0.n, x0.b, x0.m⟩).toArray by rw [← HX0C.out, ← HX0S.out], cells_sig _ _ _ _ _ _ _ _ HOK.out.h] at hb6
    have hf6 : Fr [g9] w5 ((w5.setCell ⟨g9, 35, none⟩ (.int .i64 (1000 + c))).setCell ⟨g9, 36, none⟩ (.int .i64 mk)) := ((Fr.refl [g9] w5).setCell _ (fun _ => by simp) _).setCell _ (fun _ => by simp) _
    change K _ ((w5.setCell ⟨g9, 35, none⟩ (.int .i64 (1000 + c))).setCell ⟨g9, 36, none⟩ (.int .i64 mk))
    generalize (w5.setCell ⟨g9, 35, none⟩ (.int .i64 (1000 + c))).setCell ⟨g9, 36, none⟩ (.int .i64 mk) = w6 at *
    refine hK.out _ _ (hHeld.trans hf6 (fun x hx _ => by simp at hx; simp [hx])) (fun hHeld => ?_)
    clear hK K
    simp only [Act.put, List.setIfInBounds_toArray, List.set_cons_zero, List.set_cons_succ]
    refine wpAnyH_done (by kernel_rfl) ?_ _
    have HB6 := Lib.hid hb6
    have HBK6 := Lib.hid (HB5.out.keep hf6 (fun x hx he => HNS.out (by simp at he; rw [← he]; exact HS5.out x hx (by rw [he]; exact HLT4.out.1))))
    have HF6 : Hid (Fr Sb w w6) := Lib.hid (((HF0.out.and HF3.out (by simp)).mono (T := Sb) (by simp) |>.trans HF5.out (fun x hx _ => hx)).trans hf6 (fun x hx hl => by simp at hx; subst hx; have := HG9.out; have := HF0.out.size; omega))
    have HF63 := Lib.hid hf6
    have HALL6 := Lib.hid (Cm.all ⟨c, s, x0.h, x0.n, 1000 + c, mk⟩)
    have HCL6 := Lib.hid (Cm.len (x := ⟨c, s, x0.h, x0.n, 1000 + c, mk⟩) HOK.out.h)
    clear hb6 hf6
    generalize hD : (Cm.cells ⟨c, s, x0.h, x0.n, 1000 + c, mk⟩).toArray = D at *
    have HB3b := Lib.hid (((HB3.out.keep HF3.out (by simp)).keep HF5.out (fun hm => by have := HSB.out _ hm; omega)))
    have HB3c := Lib.hid (HB3b.out.keep HF63.out (by have := HG9.out; have := HB3.out.lt; simp; omega))
    have hsz : D.size = 37 := by rw [← hD, List.size_toArray]; exact HCL6.out
    have HSZ := Lib.hid hsz
    have HVAL2 := Lib.hid hD
    clear hsz hD
    go_wp2_with (first
      | (refine wpList_load_row rfl 39 _ rfl g9 rfl 39 D _ _ HB6.out Try.underlying39 rfl (by rw [HSZ.out]; kernel_rfl) ?_)
      | (refine wpList_store_row rfl 39 _ _ rfl (w.heap.size + 2) D rfl rfl 39 zeroCm HB3c.out (by rw [HSZ.out]; kernel_rfl) (by rw [HSZ.out]; rfl) HALL6.out ?_))
    have hgr := setRow_blk HB3c.out D
    have hfr := setRow_fr w6 (w.heap.size + 2) D
    refine bodyPost_ret (v := .agg D) (results_cell_row Try.results19 _ _ (w.heap.size + 2) 39 D _ _ rfl hgr Try.underlying39 rfl (by rw [HSZ.out]; kernel_rfl)) rfl ⟨?_, S', ?_, ?_, fun y hy hl => HS5.out y hy (by have := HSW.out; omega)⟩
    · rw [HVAL.out]
    · rw [HXT.out]
      exact HBK6.out.keep hfr (fun x hx hm => by simp at hm; subst hm; have := HSB.out _ (HS5.out _ hx HLT4.out.2); omega)
    · exact HF6.out.trans hfr (fun x hx hl => by simp at hx; omega)
end Go.Proofs.Ytlkhfhhaallhgaa

namespace Go.Proofs.Ytlkhfhhaallhgaa
open Go.RowKit
set_option maxRecDepth 100000

end Go.Proofs.Ytlkhfhhaallhgaa

namespace Go.Proofs.Ytlkhfhhaallhgaa
open Go.RowKit
set_option maxRecDepth 100000

theorem quorum_any (F k : Int) (hF : -1099511627776 ≤ F ∧ F ≤ 1099511627776) (w : World) : Calls Try.prog 25 #[.agg #[.int .i64 F, .int .i64 k]] w fun e w' => e = .returned (.int .i64 (2 * F + 1)) ∧ Fr [] w w' := by
  have h1 : IntKind.i64.wrap (2 * F) = 2 * F := by rw [IntKind.wrap_i64]; omega
  have h2 : IntKind.i64.wrap (2 * F + 1) = 2 * F + 1 := by rw [IntKind.wrap_i64]; omega
  go_enter Try.func25, Try.ntmps25
  go_wp2
  go_ret
  exact ⟨rfl, (Fr.refl [] w).alloc _⟩
theorem refquorum_any (F k : Int) (hF : -1099511627776 ≤ F ∧ F ≤ 1099511627776) (w : World) : Calls Try.prog 31 #[.agg #[.int .i64 F, .int .i64 k]] w fun e w' => e = .returned (.int .i64 (2 * F + 1)) ∧ Fr [] w w' := by
  have h1 : IntKind.i64.wrap (2 * F) = 2 * F := by rw [IntKind.wrap_i64]; omega
  have h2 : IntKind.i64.wrap (2 * F + 1) = 2 * F + 1 := by rw [IntKind.wrap_i64]; omega
  go_enter Try.func31, Try.ntmps31
  go_wp2
  go_ret
  exact ⟨rfl, (Fr.refl [] w).alloc _⟩
theorem refn_any (F k : Int) (hF : -1099511627776 ≤ F ∧ F ≤ 1099511627776) (w : World) : Calls Try.prog 13 #[.agg #[.int .i64 F, .int .i64 k]] w fun e w' => e = .returned (.int .i64 (3 * F + 1)) ∧ Fr [] w w' := by
  have h1 : IntKind.i64.wrap (3 * F) = 3 * F := by rw [IntKind.wrap_i64]; omega
  have h2 : IntKind.i64.wrap (3 * F + 1) = 3 * F + 1 := by rw [IntKind.wrap_i64]; omega
  go_enter Try.func13, Try.ntmps13
  go_wp2
  go_ret
  exact ⟨rfl, (Fr.refl [] w).alloc _⟩
theorem wf_i64 {x : Int} (h : i64In x) : (Lit.int .i64 x).wf = true := by
  have h1 := h.1
  have h2 := h.2
  simp only [Lit.wf, Bool.and_eq_true, decide_eq_true_eq]
  exact ⟨by show -9223372036854775808 ≤ x; omega, by show x ≤ 9223372036854775807; omega⟩
/-- is r a replica's number? -/
def hasB (F r : Int) : Bool := decide (0 ≤ r ∧ r < 3 * F + 1)
theorem rhas_any (F k r : Int) (hr : i64In r) (w : World) : Calls Try.prog 38 #[.agg #[.int .i64 F, .int .i64 k], .int .i64 r] w fun e w' => e = .returned (.bool (hasB F r)) ∧ Fr [] w w' := by
  obtain ⟨B, hB⟩ : ∃ B, B = hasB F r := ⟨_, rfl⟩
  rw [← hB]
  have hr1 := hr.1
  have hr2 := hr.2
  by_cases h0 : 0 ≤ r
  · obtain ⟨q, hq⟩ : ∃ q : Int, r.tdiv 3 = q := ⟨_, rfl⟩
    obtain ⟨z, hz⟩ : ∃ z : Int, r.tmod 3 = z := ⟨_, rfl⟩
    have e1 : r.tdiv 3 = r / 3 := Int.tdiv_eq_ediv_of_nonneg h0
    have e2 : r.tmod 3 = r % 3 := Int.tmod_eq_emod_of_nonneg h0
    have hq' : r / 3 = q := by rw [← e1]; exact hq
    have hz' : r % 3 = z := by rw [← e2]; exact hz
    have hwq : IntKind.i64.wrap q = q := by rw [IntKind.wrap_i64]; omega
    by_cases h1 : q < F
    · have hBt : B = true := by rw [hB]; unfold hasB; simp; omega
      subst hBt
      clear hB e1 e2
      go_enter Try.func38, Try.ntmps38
      go_wp2
      go_ret
      exact ⟨rfl, (Fr.refl [] w).alloc _⟩
    · by_cases h2 : q = F
      · by_cases h3 : z = 0
        · have hBt : B = true := by rw [hB]; unfold hasB; simp; omega
          subst hBt h3
          subst h2
          have hqq : (q == q) = true := by simp
          clear hB e1 e2
          go_enter Try.func38, Try.ntmps38
          go_wp2
          go_ret
          exact ⟨rfl, (Fr.refl [] w).alloc _⟩
        · have hBt : B = false := by rw [hB]; unfold hasB; simp; omega
          have hz0 : (z == 0) = false := by simp [h3]
          subst hBt
          subst h2
          have hqq : (q == q) = true := by simp
          clear hB e1 e2
          go_enter Try.func38, Try.ntmps38
          go_wp2
          go_ret
          exact ⟨rfl, (Fr.refl [] w).alloc _⟩
      · have hBt : B = false := by rw [hB]; unfold hasB; simp; omega
        have hqq : (q == F) = false := by simp [h2]
        subst hBt
        clear hB e1 e2
        go_enter Try.func38, Try.ntmps38
        go_wp2
        go_ret
        exact ⟨rfl, (Fr.refl [] w).alloc _⟩
  · have hBt : B = false := by rw [hB]; unfold hasB; simp; omega
    subst hBt
    clear hB
    go_enter Try.func38, Try.ntmps38
    go_wp2
    go_ret
    exact ⟨rfl, (Fr.refl [] w).alloc _⟩
/-- is the stamp right, where the book has l? -/
def stampB (F : Int) (l : List Ent) (x : Wst) : Bool := hasB F x.r && (decide (1 ≤ x.t) && (decide (x.t < 18446744073709551615) && (decide (x.b = x.r) && rightB l x.b x.m x.text)))
end Go.Proofs.Ytlkhfhhaallhgaa
