/- Sorting numbers of 64 digits: patterns are broken. -/
import Derived.Test.YtglphddjinmhoaaSu6
import Derived.Test.YtglphddjinmhoaaCeLay
import Derived.Laws.Bits64b
namespace Go.Proofs.Ytglphddjinmhoaa
set_option maxRecDepth 100000
open Go.RowKit Go.Sort

theorem next_u (rb X : Nat) (hX : X < 18446744073709551616) (w : World) (hb : Blk w rb 149 #[.int .u64 X]) :
    Calls Try.prog 99 #[.pointer (some ⟨rb, 0, none⟩)] w fun e w' => ∃ Y : Nat, Y < 18446744073709551616 ∧ e = .returned (.int .u64 (Y : Int)) ∧ Blk w' rb 149 #[.int .u64 Y] ∧ Fr [rb] w w' := by
  have h := AnyF.xorshift_Next (P := Try.prog) (ρ := sortSt_ren) { sortSt_lays with } rb 0 X hX w (by rw [hb.cell]; rfl) (hb.frozen 0)
  change Calls Try.prog 99 _ _ _ at h
  refine h.mono ?_
  rintro e w' ⟨rfl, rfl⟩
  exact ⟨xorNextN X, xorNextN_lt X hX, rfl, (hb.set 0 _).drewN 3, ((Fr.refl _ w).setCell _ (fun _ => by simp) _).drewN 3⟩
theorem pow_u (n : Nat) (hn : n < 4611686018427387904) (w : World) :
    Calls Try.prog 98 #[.int .i64 n] w fun e w' => e = .returned (.int .u64 ((1 <<< bitsLen n : Nat) : Int)) ∧ w' = w :=
  AnyF.nextPowerOfTwo (P := Try.prog) (ρ := sortSt_ren) { sortSt_lays with } n hn w

set_option maxHeartbeats 4000000 in
theorem brk_u (blk off cap a b : Nat) (d : Array Int) (n : Nat) (hn : d.size = n) (w : World) (hH : Hu w blk off d) (hlt : blk < w.heap.size) (hab : a + 8 ≤ b) (hb : b ≤ n) (hsz : n < 4611686018427387904) :
    Calls Try.prog 75 #[.slice (some ⟨blk, off, none⟩) n cap, .int .i64 a, .int .i64 b] w fun e w' => e = .returned (.tuple #[]) ∧ ∃ d', Hu w' blk off d' ∧ d'.size = n ∧ Fr [blk] w w' ∧ PermIn a b d d' := by
  have HH := Lib.hid hH
  have HN := Lib.hid hn
  have HL := Lib.hid hlt
  clear hH hn hlt
  obtain ⟨l, hl⟩ : ∃ l, l = b - a := ⟨_, rfl⟩
  have e1 : (b : Int) - (a : Int) = (l : Int) := by omega
  obtain ⟨M, hM⟩ : ∃ M : Nat, M = 1 <<< bitsLen l := ⟨_, rfl⟩
  have hM1 : 1 ≤ M := by rw [hM, Nat.one_shiftLeft]; exact Nat.two_pow_pos _
  have hM2 : M ≤ 2 * l := by rw [hM, Nat.one_shiftLeft]; exact two_pow_bitsLen_le (by omega)
  have hNP := fun w => pow_u l (by omega) w
  rw [← hM] at hNP
  obtain ⟨q, hq⟩ : ∃ q, q = l / 4 := ⟨_, rfl⟩
  have e2 : (l : Int).tdiv 4 = (q : Int) := by rw [hq]; exact Int.ofNat_tdiv l 4
  have e2' : (l : Int) / 4 = (q : Int) := by rw [hq]; omega
  have hq4 : 4 * q ≤ l := by omega
  have hq2 : 2 ≤ q := by omega
  have hlb : a + l = b := by omega
  have hl8 : (8 : Int) ≤ (l : Int) := by omega
  clear hl hq hM
  have hwl : IntKind.u64.wrap (l : Int) = (l : Int) := by simp [IntKind.wrap, IntKind.bits, IntKind.signed]; omega
  go_enter Try.func75, Try.ntmps75
  go_upto_region 3 with (fail)
  have hf0 : Fr [] w (w.alloc (Obj.cells #[Value.int IntKind.u64 (l : Int)] 149)) := (Fr.refl [] w).alloc _
  have hb0 : Blk (w.alloc (Obj.cells #[Value.int IntKind.u64 (l : Int)] 149)) w.heap.size 149 #[.int .u64 (l : Int)] := Blk.new w _ _
  generalize w.alloc (Obj.cells #[Value.int IntKind.u64 (l : Int)] 149) = wa at *
  obtain ⟨rb, hrb⟩ : ∃ rb, rb = w.heap.size := ⟨_, rfl⟩
  rw [← hrb] at hb0 ⊢
  have hne : ¬ blk ∈ [rb] := by have := HL.out; simp; omega
  have HRB := Lib.hid hrb
  have HB0 := Lib.hid hb0
  have HF00 := Lib.hid hf0
  have HF0 := Lib.hid (hf0.mono (T := [blk]) (by simp))
  clear hrb hf0 hb0
  have e5 : (a : Int) + (q : Int) * 2 - 1 = ((a + q * 2 - 1 : Nat) : Int) := by omega
  have e6 : (a : Int) + (q : Int) * 2 + 1 = ((a + q * 2 + 1 : Nat) : Int) := by omega
  obtain ⟨m, hm⟩ : ∃ m, m = a + q * 2 - 1 := ⟨_, rfl⟩
  have hm2 : a + q * 2 + 1 = m + 2 := by omega
  rw [hm2] at e6
  rw [← hm] at e5
  have hma : a ≤ m := by omega
  have hmb : m + 3 ≤ b := by omega
  clear hm hm2
  go_wp2_with (first | (go_at_call 98; refine (hNP _).mono ?_; rintro e w' ⟨rfl, rfl⟩))
  go_loopw [9] (fun i wr => ∃ (k X : Nat) (dk : Array Int), i = .int .i64 k ∧ m ≤ k ∧ k ≤ m + 3 ∧ X < 18446744073709551616 ∧ Hid (Hu wr blk off dk) ∧ Hid (dk.size = n) ∧ Hid (Blk wr rb 149 #[.int .u64 X]) ∧ Hid (Fr [blk] w wr) ∧ Hid (PermIn a b d dk)) (fun i _ => m + 3 - (intOf i).toNat)
  case atStart => exact ⟨m, l, d, rfl, Nat.le_refl _, by omega, by omega, Lib.hid (HH.out.keep HF00.out (by simp)), HN, HB0, HF0, Lib.hid (permIn_refl _ _ _)⟩
  case round =>
    obtain ⟨k, X, dk, rfl, hmk, hkm, hX, HD, HS, HB, HF, HP⟩ := hrel
    rename World => wb
    by_cases hk : k ≤ m + 2
    · have hc := next_u rb X hX wb HB.out
      go_wp2_with fail
      refine hc.mono ?_
      rintro e w2 ⟨Y, hY, rfl, hb2, hf2⟩
      have HB2 := Lib.hid hb2
      have HF2 := Lib.hid hf2
      clear hb2 hf2 hc
      have eM : (M : Int) - 1 = ((M - 1 : Nat) : Int) := by omega
      have eA : bits .and .u64 (Y : Int) ((M - 1 : Nat) : Int) = ((Y &&& (M - 1) : Nat) : Int) := bits_and_u64_nat _ _ hY (by omega)
      have hO : Y &&& (M - 1) ≤ M - 1 := Nat.and_le_right
      generalize Y &&& (M - 1) = O at eA hO
      have HD2 := Lib.hid (Su.start (HD.out.keep HF2.out hne))
      have HW2 : Hid (Fr [blk] w w2) := Lib.hid (HF.out.trans HF2.out (fun x hx hl => by have := HRB.out; simp at hx; omega))
      go_upto_if 43 with (fail)
      go_cut [10] (fun s10 wx => ∃ o : Nat, s10 = .int .i64 o ∧ o < l ∧ w2 = wx)
      case first =>
        by_cases hlo : (l : Int) ≤ (O : Int)
        · go_wp2_with fail
          go_meet
          exact ⟨O - l, by congr 1; omega, by omega, rfl⟩
        · go_wp2_with fail
          go_meet
          exact ⟨O, rfl, by omega, rfl⟩
      case rest =>
        obtain ⟨o, rfl, hol, rfl⟩ := hcut
        obtain ⟨G, hG, hcw, hfw⟩ := HD2.out.fam
        rw [HS.out] at hcw hfw
        have HG := Lib.hid hG
        clear hG
        have hxc := fun v => (Su.stored HD2.out (i := k) (v := v) (show k < dk.size by rw [HS.out]; omega) (show a + o < dk.size by rw [HS.out]; omega)).1
        have hxf := fun v => (Su.stored HD2.out (i := k) (v := v) (show k < dk.size by rw [HS.out]; omega) (show a + o < dk.size by rw [HS.out]; omega)).2
        go_wp2_with fail
        go_region
        have hsw : Su w2 blk off dk (((w2.setCell ⟨blk, off + k, none⟩ (.int .u64 (G (a + o)))).setCell ⟨blk, off + (a + o), none⟩ (.int .u64 (G k))).drew) (swp dk k (a + o)) := (HD2.out.swapG (n := 0) HG.out (by rw [HS.out]; omega) (by rw [HS.out]; omega)).drewN 1
        generalize (((w2.setCell ⟨blk, off + k, none⟩ (.int .u64 (G (a + o)))).setCell ⟨blk, off + (a + o), none⟩ (.int .u64 (G k))).drew) = w3 at hsw ⊢
        have HW := Lib.hid hsw
        clear hsw hcw hfw hxc hxf
        go_wp2_with fail
        go_roundw
        case rel => exact ⟨k + 1, Y, swp dk k (a + o), by go_num, by omega, by omega, hY, Lib.hid HW.out.1, Lib.hid (by rw [size_swp, HS.out]), Lib.hid (HB2.out.keep HW.out.2.2 (by have := HL.out; have := HRB.out; simp; omega)), Lib.hid (HW2.out.trans HW.out.2.2 (fun _ h _ => h)), Lib.hid (permIn_trans _ _ _ _ _ HP.out (swp_permIn dk a b k (a + o) (by omega) (by omega) (by omega) (by omega) (by rw [HS.out]; exact hb)))⟩
        case measure => simp [intOf]; omega
    · go_wp2_with fail
      go_end0
      exact ⟨rfl, dk, HD.out, HS.out, HF.out, HP.out⟩
end Go.Proofs.Ytglphddjinmhoaa
