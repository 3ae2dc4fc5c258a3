/- Package code's writer: what each of its calls does to the world. -/
import Derived.Test.YtdenpfcgghangaaGreatRows
import Derived.Test.YtdenpfcgghangaaGreatMem
import Derived.WalkKit
import Derived.WalkSpells
import Derived.WalkLawsBesides
set_option linter.unusedSimpArgs false
set_option linter.unusedVariables false
namespace Go.Proofs.YtdenpfcgghangaaGreat
open Go.RowKit
def enc (n : Nat) : List UInt8 := if n < 128 then [UInt8.ofNat n] else UInt8.ofNat (n % 128 + 128) :: enc (n / 128)
termination_by n
decreasing_by omega
theorem info_u8 : (Tryz.prog.info? 5).map (fun i => (i.zero, i.size, i.bytes)) = some (some (.int .u8 0), 1, 1) := by kernel_rfl
def Wr (w : World) (S : List Nat) (g : Nat) (l : List UInt8) : Prop :=
 ∃ A c, S = g :: bk A ∧ Blk w g 155 #[.slice A l.length c] ∧ w.ownsRow 0 5 1 (.slice A l.length c) l.length (l.map by8)
theorem Wr.put {w wa w1 : World} {g m c c1 : Nat} {A A1 : Option Addr} {l news : List UInt8} (hb : Blk w g 155 #[.slice A l.length c]) (ho : w.ownsRow 0 5 1 (.slice A l.length c) l.length (l.map by8)) (hfa : Fr [] w wa)
  (hm : news.length = m) (ho1 : w1.ownsRow 0 5 1 (.slice A1 (l.length + m) c1) (l.length + m) ((l ++ news).map by8)) (hg : wa.grownBy w1 (Value.slice A l.length c).ownBlock) (hat : bk A1 = (Value.slice A l.length c).ownBlock.toList ∨ bk A1 = [wa.heap.size]) :
  Blk w1 g 155 #[.slice A l.length c] ∧ Wr (w1.setCell ⟨g, 0, none⟩ (.slice A1 (l.length + m) c1)) (g :: bk A1) g (l ++ news) ∧ Fr (g :: bk A) w (w1.setCell ⟨g, 0, none⟩ (.slice A1 (l.length + m) c1)) ∧
   ∀ x ∈ g :: bk A1, x < w.heap.size → x ∈ g :: bk A := by
 subst hm
 have hne := own_ne ho hb (by decide)
 have hba : Blk wa g 155 #[.slice A l.length c] := hb.keep hfa (by simp)
 have hb1 := hba.grown hg hne
 have hne1 := own_ne ho1 hb1 (by decide)
 have hs := hfa.size
 rw [bk_own] at hat
 refine ⟨hb1, ⟨A1, c1, rfl, ?_, ?_⟩, ?_, ?_⟩
 · simpa using hb1.set 0 (.slice A1 (l.length + news.length) c1)
 · have := own_setCell ho1 ⟨g, 0, none⟩ hne1 (.slice A1 (l.length + news.length) c1)
   simpa using this
 · exact ((hfa.mono (T := g :: bk A) (by simp)).grown hg (fun k hk _ => by rw [bk_mem] at hk; simp [hk])).setCell _ (fun _ => by simp) _
 · intro x hx hl
   simp at hx
   rcases hx with rfl | hx
   · simp
   · rcases hat with e | e
     · rw [e] at hx; simp [hx]
     · rw [e] at hx
       simp at hx
       omega
theorem Wr.keep {w w' : World} {S T : List Nat} {g : Nat} {l : List UInt8} (h : Wr w S g l) (hf : Fr T w w') (hn : ∀ k ∈ S, ¬ k ∈ T) : Wr w' S g l := by
 obtain ⟨A, c, rfl, hb, ho⟩ := h
 exact ⟨A, c, rfl, hb.keep hf (hn g (by simp)), own_keep ho hf (fun k hk => hn k (by rw [bk_mem] at hk; simp [hk]))⟩
theorem Wr.lt {w : World} {S : List Nat} {g : Nat} {l : List UInt8} (h : Wr w S g l) : ∀ k ∈ S, k < w.heap.size := by
 obtain ⟨A, c, rfl, hb, ho⟩ := h
 intro k hk
 simp at hk
 rcases hk with rfl | hk
 · exact hb.lt
 · exact own_lt ho k (by rw [bk_mem]; exact hk)
theorem enc_small {m : Nat} (h : m < 128) : enc m = [UInt8.ofNat m] := by rw [enc, if_pos h]
theorem enc_great {m : Nat} (h : ¬ m < 128) : enc m = UInt8.ofNat (m % 128 + 128) :: enc (m / 128) := by rw [enc, if_neg h]
theorem enc_len : ∀ (k m : Nat), m < 128 ^ (k + 1) → (enc m).length ≤ k + 1
 | 0, m, h => by rw [enc_small (by simpa using h)]; simp
 | k + 1, m, h => by
   by_cases hm : m < 128
   · rw [enc_small hm]; simp
   · rw [enc_great hm]
     have := enc_len k (m / 128) (by rw [Nat.div_lt_iff_lt_mul (by omega)]; simpa [Nat.pow_succ] using h)
     simpa using this
theorem enc_pos (m : Nat) : 0 < (enc m).length := by
 rw [enc]; split <;> simp
theorem enc_ten {m : Nat} (h : m < 18446744073709551616) : (enc m).length ≤ 10 := enc_len 9 m (Nat.lt_of_lt_of_le h (by decide))
theorem u8_small {m : Nat} (h : m < 128) : (m : Int) = ((UInt8.ofNat m).toNat : Int) := by rw [UInt8.toNat_ofNat']; omega
set_option maxRecDepth 100000 in
set_option maxHeartbeats 400000 in
theorem num_any (n : Nat) (hn : n < 18446744073709551616) (w : World) (S : List Nat) (g : Nat) (l : List UInt8) (hw : Wr w S g l) (hl : l.length < 1073741824) :
  Calls Tryz.prog 97 #[.pointer (some ⟨g, 0, none⟩), .int .u64 n] w fun e w' => e = .returned (.pointer (some ⟨g, 0, none⟩)) ∧
   ∃ S', Wr w' S' g (l ++ enc n) ∧ Fr S w w' ∧ ∀ x ∈ S', x < w.heap.size → x ∈ S := by
 have HN := Lib.hid hn
 have HL := Lib.hid hl
 have HW := Lib.hid hw
 clear hn hl hw
 go_enter Tryz.func97, Tryz.ntmps97
 go_wp2
 go_loopw [1] (fun x wr => ∃ (m : Nat) (l1 : List UInt8) (S1 : List Nat), m < 18446744073709551616 ∧ x = .int .u64 m ∧ Wr wr S1 g l1 ∧ l1 ++ enc m = l ++ enc n ∧ Fr S w wr ∧ ∀ y ∈ S1, y < w.heap.size → y ∈ S)
  (fun x _ => (intOf x).toNat)
 case atStart => exact ⟨n, l, S, HN.out, rfl, HW.out, rfl, Fr.refl _ _, fun _ h _ => h⟩
 case round =>
  obtain ⟨m, l1, S1, hm, rfl, hw1, heq, hf, hs⟩ := hrel
  have HM := Lib.hid hm
  have HEQ := Lib.hid heq
  clear hm heq
  obtain ⟨A, c, hS1, hb, ho⟩ := hw1
  have hc := hb.cell 0
  simp at hc
  have HS1 := Lib.hid hS1
  have hll : l1.length ≤ 1073741900 := by
   have e := congrArg List.length HEQ.out
   simp only [List.length_append] at e
   have h1 := enc_ten HN.out
   have h2 := HL.out
   omega
  have HLL := Lib.hid hll
  clear hS1 hll
  by_cases hlt : m < 128
  · go_wp2_with (at_builtin; refine Stop.mk ?_)
    refine Stop.go ?_
    refine wpList_append_bytes _ rfl (.tmp 25) (.tmp 28) _ rfl 5 Tryz.underlying52 info_u8 (.slice A l1.length c) l1.length l1 rfl (ho.alloc _) (some ⟨wr.heap.size, 0, none⟩) 1 1 [UInt8.ofNat m] rfl
       (By.one (Blk.new _ _ _) ?_) ?_ ?_
    · exact u8_small hlt
    · have := HLL.out; omega
    intro A1 c1 w1 ho1 hg1 hat1
    obtain ⟨hb1, hP1, hP2, hP3⟩ := Wr.put hb ho ((Fr.refl [] wr).alloc _) rfl ho1 hg1 hat1
    have hc1 := hb1.cell 0
    have hz1 := hb1.frozen 0
    simp at hc1
    have HP1 := Lib.hid hP1
    have HP2 := Lib.hid hP2
    have HP3 := Lib.hid hP3
    clear hP1 hP2 hP3
    go_wp2
    go_ret
    refine ⟨rfl, g :: bk A1, ?_, ?_, ?_⟩
    · have e := HEQ.out
      rw [enc_small hlt] at e
      rw [← e]
      exact HP1.out
    · refine hf.trans HP2.out ?_
      rw [← HS1.out]
      exact hs
    · intro x hx hl
      have := HP3.out x hx (Nat.lt_of_lt_of_le hl hf.size)
      rw [← HS1.out] at this
      exact hs x this hl
  · go_wp2_with (at_builtin; refine Stop.mk ?_)
    refine Stop.go ?_
    refine wpList_append_bytes _ rfl (.tmp 11) (.tmp 15) _ rfl 5 Tryz.underlying52 info_u8 (.slice A l1.length c) l1.length l1 rfl (ho.alloc _) (some ⟨wr.heap.size, 0, none⟩) 1 1 [UInt8.ofNat (m % 128 + 128)] rfl
       (By.one (Blk.new _ _ _) ?_) ?_ ?_
    · exact u8_or128_byte m
    · have := HLL.out; omega
    intro A1 c1 w1 ho1 hg1 hat1
    obtain ⟨hb1, hP1, hP2, hP3⟩ := Wr.put hb ho ((Fr.refl [] wr).alloc _) rfl ho1 hg1 hat1
    have hc1 := hb1.cell 0
    have hz1 := hb1.frozen 0
    simp at hc1
    have HP1 := Lib.hid hP1
    have HP2 := Lib.hid hP2
    have HP3 := Lib.hid hP3
    clear hP1 hP2 hP3
    go_wp2
    go_roundw
    case rel =>
     refine ⟨m / 128, l1 ++ [UInt8.ofNat (m % 128 + 128)], g :: bk A1, ?_, ?_, HP1.out, ?_, ?_, ?_⟩
     · have := HM.out; omega
     · go_num
     · rw [← HEQ.out, enc_great hlt]; simp
     · refine hf.trans HP2.out ?_
       rw [← HS1.out]
       exact hs
     · intro x hx hl
       have := HP3.out x hx (Nat.lt_of_lt_of_le hl hf.size)
       rw [← HS1.out] at this
       exact hs x this hl
    case measure => simp [intOf]; omega
end Go.Proofs.YtdenpfcgghangaaGreat
