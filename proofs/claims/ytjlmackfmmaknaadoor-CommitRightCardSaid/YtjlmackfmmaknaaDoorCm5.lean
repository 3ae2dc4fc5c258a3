/- Package commit: Make. -/
import Derived.Test.YtjlmackfmmaknaaDoorCm4
import Derived.IntWalk
namespace Go.Proofs.YtjlmackfmmaknaaDoor
open Go.RowKit
set_option maxRecDepth 100000

/-! ### a struct is built of parts -/
def splice (l : List Value) (o : Nat) (v : List Value) : List Value := l.take o ++ (v ++ l.drop (o + v.length))
theorem splice_foldl : ∀ (v : List Value) (k o : Nat) (cs : Array Value), o + k + v.length ≤ cs.size →
    (v.zipIdx k).foldl (fun cs (c, j) => cs.setIfInBounds (o + j) c) cs = (splice cs.toList (o + k) v).toArray
  | [], k, o, cs, _ => by
    simp [splice]
  | c :: r, k, o, cs, h => by
    simp only [List.length_cons] at h
    rw [List.zipIdx_cons, List.foldl_cons, splice_foldl r (k + 1) o _ (by simp; omega)]
    congr 1
    unfold splice
    simp only [Array.toList_setIfInBounds, List.length_cons]
    have h1 : o + k < cs.toList.length := by simp; omega
    rw [show o + (k + 1) = (o + k) + 1 by omega, List.take_add_one, List.take_set_of_le (Nat.le_refl _), List.getElem?_set_self h1, List.drop_set_of_lt (by omega)]
    simp [Nat.add_assoc, Nat.add_comm, Nat.add_left_comm]
theorem fill_step (place : Nat → Option (Nat × Nat)) (cells : Array Value) (i off size : Nat) (v : Value) (rest : List (Nat × Value)) (hp : place i = some (off, size)) (h1 : v.cells.size = size) (h2 : off + size ≤ cells.size) :
    Instr.fill place cells ((i, v) :: rest) = Instr.fill place (splice cells.toList off v.cells.toList).toArray rest := by
  rw [Instr.fill, hp]
  simp only [h1]
  rw [if_neg (by simp; omega)]
  congr 1
  have e := splice_foldl v.cells.toList 0 off cells (by simp [h1]; omega)
  rw [Nat.add_zero] at e
  rw [← e, ← Array.foldl_toList, Array.toList_zipIdx]

def zeroCm : Array Value := (Cm.cells ⟨0, 0, List.replicate 32 0, 0, 0, 0⟩).toArray
def places : List (Nat × Nat) := [(0, 2), (2, 32), (34, 1), (35, 2)]
theorem built_eq (parts : List (Nat × Value)) : Tryd.prog.built 54 parts = Instr.fill (places.toArray[·]?) zeroCm parts := by kernel_rfl
theorem built_commit (c s n : Int) (h : List UInt8) (hh : h.length = 32) :
    Tryd.prog.built 54 [(0, .agg #[.int .i64 c, .int .i64 s]), (1, .agg (h.map by8).toArray), (2, .int .i64 n)] = some (Cm.cells ⟨c, s, h, n, 0, 0⟩).toArray := by
  have hz : zeroCm.size = 37 := rfl
  rw [built_eq, fill_step _ _ 0 0 2 _ _ rfl rfl (by rw [hz]; omega), fill_step _ _ 1 2 32 _ _ rfl (by simp [Value.cells, hh]) (by simp [splice, zeroCm, Cm.cells, Value.cells]),
    fill_step _ _ 2 34 1 _ _ rfl rfl (by simp [splice, zeroCm, Cm.cells, Value.cells, hh]), Instr.fill]
  congr 2
  simp [splice, zeroCm, Cm.cells, Value.cells, hh, List.drop_append]

theorem cells_sig (c s n b m b' m' : Int) (h : List UInt8) (hh : h.length = 32) : (((Cm.cells ⟨c, s, h, n, b, m⟩).toArray.setIfInBounds 35 (.int .i64 b')).setIfInBounds 36 (.int .i64 m')) = (Cm.cells ⟨c, s, h, n, b', m'⟩).toArray := by
  simp [Cm.cells, List.set_append, hh]
theorem setCells_two (w : World) (g o : Nat) (x y : Value) : w.setCells g o [x, y] = (w.setCell ⟨g, o, none⟩ x).setCell ⟨g, o + 1, none⟩ y := rfl
theorem Blk.there {w : World} {g : Nat} {t : TypeId} {cs : Array Value} (h : Blk w g t cs) (o n : Nat) (hl : o + n ≤ cs.size) : w.there g o n := fun j hj => by
  refine ⟨?_, h.frozen _⟩
  rw [h.cell, Array.getElem?_eq_getElem (by omega)]
  rfl
/-- what Make makes, its signature aside -/
def made0 (c s : Int) (h b : List UInt8) : Cm := ⟨c, s, sumL (ofL c s h b), b.length, 0, 0⟩
def made (c s : Int) (h b : List UInt8) (l : List Ent) : Cm :=
  ⟨c, s, sumL (ofL c s h b), b.length, 1000 + c, mrk (sgn l (1000 + c, (made0 c s h b).text)) (1000 + c, (made0 c s h b).text)⟩
theorem made_text (c s : Int) (h b : List UInt8) (l : List Ent) : (made c s h b l).text = (made0 c s h b).text := rfl

set_option maxHeartbeats 2000000 in
theorem make_any (c s : Int) (hc : 0 ≤ c ∧ c < 1099511627776) (hs : i64In s) (h : List UInt8) (hh : h.length = 32) (A : Option Addr) (n cap : Nat) (b : List UInt8) (w : World)
    (hb : By w A n b) (hA : ∀ k ∈ bk A, k < w.heap.size) (hn : n ≤ 1000000) (hK : KW w) (Sb : List Nat) (gb : Nat) (l : List Ent) (hbk : Bok w Sb gb l) (hl : l.length < 1048576) :
    Calls Tryd.prog 22 #[.pointer (some ⟨gb, 0, none⟩), .agg #[.int .i64 c, .int .i64 s], .agg (h.map by8).toArray, .slice A n cap] w fun e w' => e = .returned (made c s h b l).val ∧
      Bok w' Sb gb (sgn l (1000 + c, (made0 c s h b).text)) ∧ Fr Sb w w' := by
  obtain ⟨wa, hwa⟩ : ∃ wa, wa = ((w.alloc (Obj.cells #[.int .i64 c, .int .i64 s] 42)).alloc (Obj.cells (h.map by8).toArray 26)).alloc (Obj.cells zeroCm 54) := ⟨_, rfl⟩
  have hf0 : Fr [] w wa := by rw [hwa]; exact (((Fr.refl [] w).alloc _).alloc _).alloc _
  have hb1 : Blk wa w.heap.size 42 #[.int .i64 c, .int .i64 s] := by rw [hwa]; exact blk_alloc (blk_alloc (Blk.new _ _ _))
  have hb2 : Blk wa (w.heap.size + 1) 26 (h.map by8).toArray := by
    have := blk_alloc (t' := 54) (cs' := zeroCm) (Blk.new (w.alloc (Obj.cells #[.int .i64 c, .int .i64 s] 42)) 26 (h.map by8).toArray)
    rw [hwa]
    simpa using this
  have hb3 : Blk wa (w.heap.size + 2) 54 zeroCm := by
    have := Blk.new ((w.alloc (Obj.cells #[.int .i64 c, .int .i64 s] 42)).alloc (Obj.cells (h.map by8).toArray 26)) 54 zeroCm
    rw [hwa]
    simpa using this
  have HR1 := Lib.hid hb1.range
  have HC1 : Hid (wa.cell? ⟨w.heap.size, 0, none⟩ = some (.int .i64 c)) := Lib.hid (hb1.cell 0)
  have HR2 := Lib.hid hb2.range
  have HB3 := Lib.hid hb3
  have HF0 := Lib.hid hf0
  have HWA := Lib.hid hwa
  have HSB : Hid (∀ k ∈ Sb, k < w.heap.size) := Lib.hid hbk.lt
  have HBK := Lib.hid (hbk.keep hf0 (by simp))
  have HB := Lib.hid (hb.keep hf0 (by simp))
  have HBN := Lib.hid hb.1
  have HA : Hid (∀ k ∈ bk A, k < wa.heap.size) := Lib.hid (fun k hk => by have := hA k hk; have := hf0.size; omega)
  have HK := Lib.hid (hK.keep hf0 (by simp))
  have HH := Lib.hid hh
  have HC := Lib.hid hc
  have HS := Lib.hid hs
  have HL := Lib.hid hl
  clear hb1 hb2 hb3 hf0 hwa hb hA hK hh hc hs hbk hl
  have hof := fun W (hW : Fr [] wa W) => of_any c s (by have := HC.out; omega) (by have := HC.out; omega) HS.out.1 HS.out.2 h HH.out A n cap b W (HB.out.keep hW (by simp)) (fun k hk => by have := HA.out k hk; have := hW.size; omega) hn (HK.out.keep hW (by simp))
  have hbuilt := built_commit c s n (sumL (ofL c s h b)) (sumL_len _)
  have hx0 : (Cm.mk c s (sumL (ofL c s h b)) n 0 0) = made0 c s h b := by unfold made0; rw [HBN.out]
  rw [hx0] at hbuilt
  generalize hH : ((sumL (ofL c s h b)).map by8).toArray = H at *
  have hok0 : (made0 c s h b).Ok := ⟨⟨by have := HC.out; show _ ≤ c; omega, by have := HC.out; show c < _; omega⟩, HS.out, sumL_len _, ⟨by show _ ≤ ((b.length : Nat) : Int); omega, by have := HBN.out; show ((b.length : Nat) : Int) < _; omega⟩, ⟨by show _ ≤ (0 : Int); decide, by show (0 : Int) < _; decide⟩, ⟨by show _ ≤ (0 : Int); decide, by show (0 : Int) < _; decide⟩⟩
  have hcl := Cm.len hok0.h
  have hall := Cm.all (made0 c s h b)
  have hval : (made c s h b l).val = .agg (Cm.cells ⟨c, s, (made0 c s h b).h, (made0 c s h b).n, 1000 + c, mrk (sgn l (1000 + c, (made0 c s h b).text)) (1000 + c, (made0 c s h b).text)⟩).toArray := rfl
  have HVAL := Lib.hid hval
  have hx0c : (made0 c s h b).c = c := rfl
  have hx0s : (made0 c s h b).s = s := rfl
  have HX0S := Lib.hid hx0s
  have HX0C := Lib.hid hx0c
  have HOF := Lib.hid hof
  have HBUILT := Lib.hid hbuilt
  have HOK := Lib.hid hok0
  have HCL := Lib.hid hcl
  have HALL := Lib.hid hall
  clear hof hbuilt hx0 hok0 hcl hH hall hval hx0c hx0s
  generalize made0 c s h b = x0 at *
  go_enter Tryd.func22, Tryd.ntmps22
  go_upto_region 1 with (fail)
  change Code.wp _ _ _ _ (((w.alloc (Obj.cells #[.int .i64 c, .int .i64 s] 42)).alloc (Obj.cells (h.map by8).toArray 26)).alloc (Obj.cells zeroCm 54))
  rw [← HWA.out]
  refine wp_region_held_drew (S := Fr [] wa) (by kernel_rfl) (Fr.drew (Fr.refl _ wa)) (fun hHeld => ?_)
  refine row_at (i := 0) rfl (by kernel_rfl) (by rfl) _ _ rfl _ _ rfl _ (fun w1 hw1 => hw1.range (HR1.out) (by first | (simp; done) | exact HNS.out | exact HNW.out | (intro hm; have hlt := HSB.out _ hm; (try dsimp only at hlt); omega))) (row_name) (fun _ _ _ h => h) hHeld ?_
  simp only [Act.put, List.setIfInBounds_toArray, List.set_cons_zero, List.set_cons_succ]
  refine row_at (i := 1) rfl (by kernel_rfl) (by rfl) _ _ rfl _ _ rfl _ (fun w1 hw1 => hw1.range (HR1.out) (by first | (simp; done) | exact HNS.out | exact HNW.out | (intro hm; have hlt := HSB.out _ hm; (try dsimp only at hlt); omega))) (row_name) (fun _ _ _ h => h) hHeld ?_
  simp only [Act.put, List.setIfInBounds_toArray, List.set_cons_zero, List.set_cons_succ]
  refine row_at (i := 2) rfl (by kernel_rfl) (by rfl) _ _ rfl _ _ rfl _ (fun w1 hw1 => hw1.range (HR2.out) (by first | (simp; done) | exact HNS.out | exact HNW.out | (intro hm; have hlt := HSB.out _ hm; (try dsimp only at hlt); omega))) (row_hash.of (by rw [List.length_map]; exact HH.out)) (fun _ _ _ h => h) hHeld ?_
  simp only [Act.put, List.setIfInBounds_toArray, List.set_cons_zero, List.set_cons_succ]
  refine run_at (i := 3) (v := ?_) rfl (by kernel_rfl) (by rfl) (fun _ _ _ h => h) hHeld (fun w1 hw1 => ?_) ?_
  rotate_left 1
  · skip
    go_simp
    (try (first | with_reducible rfl | (apply And.intro <;> rfl)))
  simp only [Act.put, List.setIfInBounds_toArray, List.set_cons_zero, List.set_cons_succ]
  refine run_at (i := 5) (v := ?_) rfl (by kernel_rfl) (by rfl) (fun _ _ _ h => h) hHeld (fun w1 hw1 => ?_) ?_
  rotate_left 1
  · skip
    go_simp
    (try (first | with_reducible rfl | (apply And.intro <;> rfl)))
  simp only [Act.put, List.setIfInBounds_toArray, List.set_cons_zero, List.set_cons_succ]
  refine run_at (i := 6) (v := ?_) rfl (by kernel_rfl) (by rfl) (fun _ _ _ h => h) hHeld (fun w1 hw1 => ?_) ?_
  rotate_left 1
  · skip
    go_simp
    (try (first | with_reducible rfl | (apply And.intro <;> rfl)))
  simp only [Act.put, List.setIfInBounds_toArray, List.set_cons_zero, List.set_cons_succ]
  refine two_at (i := 4) (j := 8) rfl rfl (by kernel_rfl) (by rfl) (by rfl) (fun K hK => ?_) (fun K hK => ?_)
  focus
    refine wp_call (f := ?_) (args := ?_) ?_ ?_
    rotate_left 2
    · go_simp
      (try (first | with_reducible rfl | (apply And.intro <;> rfl)))
    refine (HOF.out _ hHeld).mono ?_
    rintro e w1 ⟨rfl, hf1⟩
    refine ⟨_, rfl, hK.out _ _ (hHeld.and hf1 (by simp)) (fun hHeld => ?_)⟩
    clear hK K
    simp only [Act.put, List.setIfInBounds_toArray, List.set_cons_zero, List.set_cons_succ]
    refine build_at (i := 7) rfl (by kernel_rfl) (by rfl) _ _ rfl _ _ (HBUILT.out) rfl (fun _ _ _ h => h) hHeld ?_
    simp only [Act.put, List.setIfInBounds_toArray, List.set_cons_zero, List.set_cons_succ]
    refine step_at (i := 8) rfl (by kernel_rfl) (by rfl) (fun K hK => ?_)
    refine wp_run (v := ?_) (w' := ?_) ?_ ?_
    rotate_left 2
    · go_simp
      (try (first | with_reducible rfl | (apply And.intro <;> rfl)))
    refine hK.out _ (w1.alloc (Obj.cells zeroCm 54)) (hHeld.alloc _) (fun hHeld => ?_)
    clear hK K
    simp only [Act.put, List.setIfInBounds_toArray, List.set_cons_zero, List.set_cons_succ]
    have HB9 := Lib.hid (Blk.new w1 54 zeroCm)
    have HG9 : Hid (wa.heap.size ≤ w1.heap.size) := Lib.hid (by have := hf1.size; exact this)
    generalize w1.alloc (Obj.cells zeroCm 54) = w2 at *
    generalize w1.heap.size = g9 at *
    clear hf1
  rotate_left
  focus
    refine wp_run (v := ?_) (w' := ?_) ?_ ?_
    rotate_left 2
    · go_simp
      (try (first | with_reducible rfl | (apply And.intro <;> rfl)))
    refine hK.out _ (wa.drew.alloc (Obj.cells zeroCm 54)) (hHeld.alloc _) (fun hHeld => ?_)
    clear hK K
    simp only [Act.put, List.setIfInBounds_toArray, List.set_cons_zero, List.set_cons_succ]
    refine call_at (i := 4) (f := ?_) (args := ?_) rfl (by kernel_rfl) (by rfl) ?_ ?_
    rotate_left 2
    · go_simp
      (try (first | with_reducible rfl | (apply And.intro <;> rfl)))
    refine (HOF.out _ hHeld).mono ?_
    rintro e w2 ⟨rfl, hf1⟩
    have HB9 : Hid (Blk w2 wa.heap.size 54 zeroCm) := Lib.hid ((Blk.new wa.drew 54 zeroCm).keep hf1 (by simp))
    refine ⟨_, rfl, hHeld.and hf1 (by simp), fun hHeld => ?_⟩
    clear hf1
    simp only [Act.put, List.setIfInBounds_toArray, List.set_cons_zero, List.set_cons_succ]
    refine build_at (i := 7) rfl (by kernel_rfl) (by rfl) _ _ rfl _ _ (HBUILT.out) rfl (fun _ _ _ h => h) hHeld ?_
    simp only [Act.put, List.setIfInBounds_toArray, List.set_cons_zero, List.set_cons_succ]
    obtain ⟨g9, hg9⟩ : ∃ g9, g9 = wa.heap.size := ⟨_, rfl⟩
    have HG9 : Hid (wa.heap.size ≤ g9) := Lib.hid (by rw [hg9]; exact Nat.le_refl _)
    rw [← hg9] at HB9 ⊢
    clear hg9
  all_goals
    refine step_at (i := 9) rfl (by kernel_rfl) (by rfl) (fun K hK => ?_)
    refine wp_store_blk 54 _ _ rfl g9 x0.cells.toArray rfl rfl 54 zeroCm HB9.out (by rw [List.size_toArray, HCL.out]; kernel_rfl) ((show zeroCm.size = 37 from rfl).trans (by rw [List.size_toArray, HCL.out])) HALL.out ?_
    intro w3 hb3 hf3
    refine hK.out _ _ (hHeld.go hf3 (by have := HG9.out; simpa using this)) (fun hHeld => ?_)
    clear hK K
    simp only [Act.put, List.setIfInBounds_toArray, List.set_cons_zero, List.set_cons_succ]
    refine wpAnyH_done (by kernel_rfl) ?_ _
    have HX9 := Lib.hid hb3
    have HF3 := Lib.hid hHeld
    clear hb3 hf3 HB9
    have hat := Cm.at_blk HX9.out HOK.out.h
    have HAT := Lib.hid hat
    have hwr : IntKind.i64.wrap (1000 + c) = 1000 + c := IntWalk.i64_in _ (by have := HC.out; omega)
    have HNS : Hid (¬ g9 ∈ Sb) := Lib.hid (fun hm => by have := HSB.out _ hm; have := HG9.out; have := HF0.out.size; omega)
    have HNW : Hid (¬ w.heap.size ∈ g9 :: Sb) := Lib.hid (fun hm => by
      have h1 := HB3.out.lt
      have h2 := HG9.out
      rcases List.mem_cons.1 hm with hm | hm
      · omega
      · have := HSB.out _ hm; omega)
    have HT := Lib.hid (fun W => text_any x0 HOK.out W)
    have HTL := Lib.hid (x0.text_len HOK.out)
    clear hat
    unfold Cm.val at HT
    go_upto_region 2 with (fail)
    refine wp_region_held_drew (S := Fr (g9 :: Sb) w3) (by kernel_rfl) (Fr.drew (Fr.refl _ w3)) (fun hHeld => ?_)
    refine run_at (i := 0) (v := ?_) rfl (by kernel_rfl) (by rfl) (fun _ _ _ h => h) hHeld (fun w1 hw1 => ?_) ?_
    rotate_left 1
    · skip
      go_simp
      (try (first | with_reducible rfl | (apply And.intro <;> rfl)))
    simp only [Act.put, List.setIfInBounds_toArray, List.set_cons_zero, List.set_cons_succ]
    refine run_at (i := 1) (v := ?_) rfl (by kernel_rfl) (by rfl) (fun _ _ _ h => h) hHeld (fun w1 hw1 => ?_) ?_
    rotate_left 1
    · skip
      go_simp
      (try (first | with_reducible rfl | (apply And.intro <;> rfl)))
    simp only [Act.put, List.setIfInBounds_toArray, List.set_cons_zero, List.set_cons_succ]
    refine run_at (i := 2) (v := ?_) rfl (by kernel_rfl) (by rfl) (fun _ _ _ h => h) hHeld (fun w1 hw1 => ?_) ?_
    rotate_left 1
    · skip
      have hcw0 := hw1.cell (HF3.out.cell HC1.out (by simp)) (by first | (simp; done) | exact HNS.out | exact HNW.out | (intro hm; have hlt := HSB.out _ hm; (try dsimp only at hlt); omega))
      go_simp
      (try (first | with_reducible rfl | (apply And.intro <;> rfl)))
    simp only [Act.put, List.setIfInBounds_toArray, List.set_cons_zero, List.set_cons_succ]
    refine run_at (i := 3) (v := ?_) rfl (by kernel_rfl) (by rfl) (fun _ _ _ h => h) hHeld (fun w1 hw1 => ?_) ?_
    rotate_left 1
    · skip
      go_simp
      (try (first | with_reducible rfl | (apply And.intro <;> rfl)))
    simp only [Act.put, List.setIfInBounds_toArray, List.set_cons_zero, List.set_cons_succ]
    refine step_at (i := 4) rfl (by kernel_rfl) (by rfl) (fun K hK => ?_)
    refine wp_row _ _ rfl _ _ rfl _ (HAT.out.all) (row_commit.of HCL.out) ?_
    refine hK.out _ _ hHeld (fun hHeld => ?_)
    clear hK K
    simp only [Act.put, List.setIfInBounds_toArray, List.set_cons_zero, List.set_cons_succ]
    refine call_at (i := 5) (f := ?_) (args := ?_) rfl (by kernel_rfl) (by rfl) ?_ ?_
    rotate_left 2
    · go_simp
      (try (first | with_reducible rfl | (apply And.intro <;> rfl)))
    have h := HT.out w3.drew
    have hsg := fun W (hW : Fr [] w3 W) A' n' c' (t : List UInt8) (hy : By W A' n' t) (hn : n' ≤ maxLen) => sign_any W Sb gb l ((HBK.out.keep HF3.out (by simp)).keep hW (by simp)) (1000 + c) (WalkArith.wf_i64 (by have := HC.out; omega)) A' n' c' t hy hn (by have := HL.out; omega)
    have HSG := Lib.hid hsg
    clear hsg
    generalize hXT : x0.text = X at *
    have HXT := Lib.hid hXT
    clear hXT
    refine h.mono ?_
    rintro e w4 ⟨A4, c4, rfl, hn4⟩
    have HF4 : Hid (Fr [] w3 w4) := Lib.hid ((Fr.drew (Fr.refl [] w3)).and hn4.2.1 (by simp))
    refine ⟨_, rfl, HF4.out.mono (by simp), fun hHeld => ?_⟩
    have HN4 := Lib.hid hn4
    clear hn4 h
    simp only [Act.put, List.setIfInBounds_toArray, List.set_cons_zero, List.set_cons_succ]
    refine call_at (i := 6) (f := ?_) (args := ?_) rfl (by kernel_rfl) (by rfl) ?_ ?_
    rotate_left 2
    · go_simp
      (try (first | with_reducible rfl | (apply And.intro <;> rfl)))
    refine (HSG.out w4 HF4.out A4 _ c4 X HN4.out.by (by have := HTL.out; unfold maxLen; omega)).mono ?_
    generalize mrk (sgn l (1000 + c, X)) (1000 + c, X) = mk at *
    rintro e w5 ⟨rfl, hb5, hf5⟩
    refine ⟨_, rfl, hHeld.trans hf5 (fun x hx _ => List.mem_cons_of_mem _ hx), fun hHeld => ?_⟩
    have HB5 := Lib.hid hb5
    have HF5 := Lib.hid (HF4.out.mono (T := Sb) (by simp) |>.trans hf5 (fun x hx _ => hx))
    have HX5 := Lib.hid ((HX9.out.keep HF4.out (by simp)).keep hf5 HNS.out)
    clear hb5 hf5 HN4
    simp only [Act.put, List.setIfInBounds_toArray, List.set_cons_zero, List.set_cons_succ]
    refine run_at (i := 7) (v := ?_) rfl (by kernel_rfl) (by rfl) (fun _ _ _ h => h) hHeld (fun w1 hw1 => ?_) ?_
    rotate_left 1
    · skip
      go_simp
      (try (first | with_reducible rfl | (apply And.intro <;> rfl)))
    simp only [Act.put, List.setIfInBounds_toArray, List.set_cons_zero, List.set_cons_succ]
    refine step_at (i := 8) rfl (by kernel_rfl) (by rfl) (fun K hK => ?_)
    refine wp_store_mid 52 _ _ rfl g9 35 #[.int .i64 (1000 + c), .int .i64 mk] rfl rfl (HX5.out.there 35 2 (by rw [List.size_toArray, HCL.out]; omega)) (by kernel_rfl) (by kernel_rfl) ?_
    have hb6 := (HX5.out.set 35 (.int .i64 (1000 + c))).set 36 (.int .i64 mk)
    rw [show x0.cells.toArray = (Cm.cells ⟨c, s, x0.h, x0.n, x0.b, x0.m⟩).toArray by rw [← HX0C.out, ← HX0S.out], cells_sig _ _ _ _ _ _ _ _ HOK.out.h] at hb6
    have hf6 : Fr [g9] w5 ((w5.setCell ⟨g9, 35, none⟩ (.int .i64 (1000 + c))).setCell ⟨g9, 36, none⟩ (.int .i64 mk)) := ((Fr.refl [g9] w5).setCell _ (fun _ => by simp) _).setCell _ (fun _ => by simp) _
    change K _ ((w5.setCell ⟨g9, 35, none⟩ (.int .i64 (1000 + c))).setCell ⟨g9, 36, none⟩ (.int .i64 mk))
    generalize (w5.setCell ⟨g9, 35, none⟩ (.int .i64 (1000 + c))).setCell ⟨g9, 36, none⟩ (.int .i64 mk) = w6 at *
    refine hK.out _ _ (hHeld.trans hf6 (fun x hx _ => by simp at hx; simp [hx])) (fun hHeld => ?_)
    clear hK K
    simp only [Act.put, List.setIfInBounds_toArray, List.set_cons_zero, List.set_cons_succ]
    refine wpAnyH_done (by kernel_rfl) ?_ _
    have HB6 := Lib.hid hb6
    have HBK6 := Lib.hid (HB5.out.keep hf6 (fun x hx he => HNS.out (by simp at he; rw [← he]; exact hx)))
    have HF6 : Hid (Fr Sb w w6) := Lib.hid (((HF0.out.and HF3.out (by simp)).mono (T := Sb) (by simp) |>.trans HF5.out (fun x hx _ => hx)).trans hf6 (fun x hx hl => by simp at hx; subst hx; have := HG9.out; have := HF0.out.size; omega))
    have HF63 := Lib.hid hf6
    have HALL6 := Lib.hid (Cm.all ⟨c, s, x0.h, x0.n, 1000 + c, mk⟩)
    have HCL6 := Lib.hid (Cm.len (x := ⟨c, s, x0.h, x0.n, 1000 + c, mk⟩) HOK.out.h)
    clear hb6 hf6
    generalize hD : (Cm.cells ⟨c, s, x0.h, x0.n, 1000 + c, mk⟩).toArray = D at *
    have HB3b := Lib.hid (((HB3.out.keep HF3.out (by simp)).keep HF5.out (fun hm => by have := HSB.out _ hm; omega)))
    have HB3c := Lib.hid (HB3b.out.keep HF63.out (by have := HG9.out; have := HB3.out.lt; simp; omega))
    have hsz : D.size = 37 := by rw [← hD, List.size_toArray]; exact HCL6.out
    have HSZ := Lib.hid hsz
    have HVAL2 := Lib.hid hD
    clear hsz hD
    go_wp2_with (first
      | (refine wpList_load_row rfl 54 _ rfl g9 rfl 54 D _ _ HB6.out Tryd.underlying54 rfl (by rw [HSZ.out]; kernel_rfl) ?_)
      | (refine wpList_store_row rfl 54 _ _ rfl (w.heap.size + 2) D rfl rfl 54 zeroCm HB3c.out (by rw [HSZ.out]; kernel_rfl) (by rw [HSZ.out]; rfl) HALL6.out ?_))
    have hgr := setRow_blk HB3c.out D
    have hfr := setRow_fr w6 (w.heap.size + 2) D
    refine bodyPost_ret (v := .agg D) (results_cell_row Tryd.results22 _ _ (w.heap.size + 2) 54 D _ _ rfl hgr Tryd.underlying54 rfl (by rw [HSZ.out]; kernel_rfl)) rfl ⟨?_, ?_, ?_⟩
    · rw [HVAL.out]
    · rw [HXT.out]
      exact HBK6.out.keep hfr (fun x hx hm => by have := HSB.out _ hx; simp at hm; omega)
    · exact HF6.out.trans hfr (fun x hx hl => by simp at hx; omega)
end Go.Proofs.YtjlmackfmmaknaaDoor
