/- Texts that the proof stands on: msgs.Pack of any message. | Cells in the middle of a block; gavellaw05's up, niceName, niceSig. (written by gen_nic.py) | gavellaw05's nice: a certificate of numbers from 0 on, not too great. (written by gen_nic2.py) | msgs.get, kind by kind. (written by gen_mh.py) | msgs.get of the kinds that store more than a part. (written by gen_mi.py) | Package wire: GetCert, GetPromise, GetBatch: all of it, or the zero value. (written by gen_rp4.py) | A message as it is read; msgs.get of any kind. (written by gen_mj.py) | msgs.Unpack of bytes that are not too many. (written by gen_mk.py) | gavellaw06.wakes. | No number's bytes are the beginning of another one's. | Messages of small numbers: their bytes tell them apart. | gavellaw06.tiny: a message of small numbers. (written by gen_mtb.py) | gavellaw06.Small: a message that is small enough to be played. (written by gen_msm.py) | '==' of two structs in a region that draws its order. -/
import Derived.Test.YtnpjihdhpoddgaaGreatKN3
import Derived.Laws.ResultCell
import Derived.Test.YtnpjihdhpoddgaaGreatWr
import Derived.Deep.CutBlock
import Derived.Test.YtnpjihdhpoddgaaGreatReg
set_option linter.unusedSimpArgs false
set_option linter.unusedVariables false
set_option maxRecDepth 100000

namespace Go.Proofs.YtnpjihdhpoddgaaGreat
open Go.RowKit
set_option maxRecDepth 100000
theorem row_msg : RowTy Tryz.prog 61 295 := ⟨by kernel_rfl, by kernel_rfl⟩
theorem Wmg.len {w : World} {S : List Nat} {x : Wmg} (hx : x.Ok w S) : x.cells.length = 295 := by
  simp only [Wmg.cells, List.length_append, List.length_cons, List.length_nil, Wcm.len hx.cm.h, Wst.len hx.st.h, Wce.len hx.ce.k.h, Wst.len hx.ak.h, Wpr.len, Wpo.len, Wvt.len hx.vt.h, Wen.len hx.en.h, Wop.len hx.op.h, Wdn.len, Wdc.len]
theorem Wmg.bytes_len {w : World} {S : List Nat} {x : Wmg} (hx : x.Ok w S) : x.bytes.length ≤ 15030 := by
  have b0 := encI_len x.q hx.q.2
  have b1 := encI_len x.f hx.f.2
  have b2 := encI_len x.t hx.t.2
  have b3 := Wmg.body_len hx
  simp only [Wmg.bytes, List.length_append]
  omega
/-- what Pack answers -/
def PackPost (w : World) (x : Wmg) (e : Ending) (w' : World) : Prop :=
  if 1 ≤ x.q ∧ x.q ≤ 14 then ∃ A c, e = .returned (.tuple #[.slice A x.bytes.length c, .bool true]) ∧ NewB w w' A x.bytes.length c x.bytes
  else e = .returned (.tuple #[.slice none 0 0, .bool false]) ∧ Fr [] w w'
set_option maxHeartbeats 2000000 in
theorem mpack_any (x : Wmg) (w : World) (hx : x.Ok w []) (C : List Value) (hC : x.cells = C) :
    Calls Tryz.prog 10 #[.agg C.toArray] w (PackPost w x) := by
  obtain ⟨wa, hwa⟩ : ∃ wa, wa = w.alloc (Obj.cells C.toArray 61) := ⟨_, rfl⟩
  have hf0 : Fr [] w wa := by rw [hwa]; exact (Fr.refl [] w).alloc _
  have hb0 : Blk wa w.heap.size 61 x.cells.toArray := by rw [hwa, hC]; exact Blk.new _ _ _
  have hat : x.At wa w.heap.size := Wmg.at_of hb0.range hx
  have HC0 : Hid (wa.cell? ⟨w.heap.size, 0 + 0, none⟩ = some (.int .i64 x.q)) := Lib.hid (hat.q 0 _ rfl)
  have HC1 : Hid (wa.cell? ⟨w.heap.size, 0 + 1, none⟩ = some (.int .i64 x.f)) := Lib.hid (hat.f 0 _ rfl)
  have HC2 : Hid (wa.cell? ⟨w.heap.size, 0 + 2, none⟩ = some (.int .i64 x.t)) := Lib.hid (hat.t 0 _ rfl)
  have HRG : Hid (wa.rangeAt w.heap.size 0 C) := Lib.hid (hC ▸ hb0.range)
  have HLN : Hid (C.length = 295) := Lib.hid (hC ▸ Wmg.len hx)
  have HXA : Hid (x.Ok wa []) := Lib.hid (hx.keep hf0 (by simp))
  have HBL := Lib.hid (Wmg.bytes_len hx)
  have HBD := Lib.hid (Wmg.body_len hx)
  have HRC := Lib.hid hC
  have HF0 := Lib.hid hf0
  have HWA := Lib.hid hwa
  have HX := Lib.hid hx
  clear hwa hf0 hb0 hat hx hC
  go_enter Tryz.func10, Tryz.ntmps10
  go_wp2
  rw [← HWA.out]
  refine wp_region_held_drew (S := Fr [] wa) (by kernel_rfl) (Fr.drew (Fr.refl _ wa)) (fun hHeld => ?_)
  refine run_at (i := 1) (v := ?_) rfl (by kernel_rfl) (by rfl) (fun _ _ _ h => h) hHeld (fun w1 hw1 => ?_) ?_
  rotate_left 1
  · skip
    go_simp
    (try (first | with_reducible rfl | (apply And.intro <;> rfl)))
  simp only [Act.put, List.setIfInBounds_toArray, List.set_cons_zero, List.set_cons_succ]
  refine run_at (i := 2) (v := ?_) rfl (by kernel_rfl) (by rfl) (fun _ _ _ h => h) hHeld (fun w1 hw1 => ?_) ?_
  rotate_left 1
  · skip
    have hcw0 := hw1.cell (HC0.out) (by first | (simp; done) | exact HNS.out | exact HNW.out | (intro hm; have hlt := HSB.out _ hm; (try dsimp only at hlt); omega))
    go_simp
    (try (first | with_reducible rfl | (apply And.intro <;> rfl)))
  simp only [Act.put, List.setIfInBounds_toArray, List.set_cons_zero, List.set_cons_succ]
  refine run_at (i := 4) (v := ?_) rfl (by kernel_rfl) (by rfl) (fun _ _ _ h => h) hHeld (fun w1 hw1 => ?_) ?_
  rotate_left 1
  · skip
    go_simp
    (try (first | with_reducible rfl | (apply And.intro <;> rfl)))
  simp only [Act.put, List.setIfInBounds_toArray, List.set_cons_zero, List.set_cons_succ]
  refine run_at (i := 5) (v := ?_) rfl (by kernel_rfl) (by rfl) (fun _ _ _ h => h) hHeld (fun w1 hw1 => ?_) ?_
  rotate_left 1
  · skip
    have hcw0 := hw1.cell (HC1.out) (by first | (simp; done) | exact HNS.out | exact HNW.out | (intro hm; have hlt := HSB.out _ hm; (try dsimp only at hlt); omega))
    go_simp
    (try (first | with_reducible rfl | (apply And.intro <;> rfl)))
  simp only [Act.put, List.setIfInBounds_toArray, List.set_cons_zero, List.set_cons_succ]
  refine run_at (i := 7) (v := ?_) rfl (by kernel_rfl) (by rfl) (fun _ _ _ h => h) hHeld (fun w1 hw1 => ?_) ?_
  rotate_left 1
  · skip
    go_simp
    (try (first | with_reducible rfl | (apply And.intro <;> rfl)))
  simp only [Act.put, List.setIfInBounds_toArray, List.set_cons_zero, List.set_cons_succ]
  refine run_at (i := 8) (v := ?_) rfl (by kernel_rfl) (by rfl) (fun _ _ _ h => h) hHeld (fun w1 hw1 => ?_) ?_
  rotate_left 1
  · skip
    have hcw0 := hw1.cell (HC2.out) (by first | (simp; done) | exact HNS.out | exact HNW.out | (intro hm; have hlt := HSB.out _ hm; (try dsimp only at hlt); omega))
    go_simp
    (try (first | with_reducible rfl | (apply And.intro <;> rfl)))
  simp only [Act.put, List.setIfInBounds_toArray, List.set_cons_zero, List.set_cons_succ]
  refine call_at (i := 0) (f := ?_) (args := ?_) rfl (by kernel_rfl) (by rfl) ?_ ?_
  rotate_left 2
  · go_simp
    (try (first | with_reducible rfl | (apply And.intro <;> rfl)))
  refine (newWriter_any _).mono ?_
  rintro e w1 ⟨rfl, hw1, hf1⟩
  obtain ⟨g, hg⟩ : ∃ g, g = wa.drew.heap.size := ⟨_, rfl⟩
  have HW1 : Hid (NewWr wa w1 g []) := Lib.hid ⟨[g], hg ▸ hw1, (Fr.drew (Fr.refl [] wa)).trans hf1 (by simp), fun x hx => by simp at hx; subst hx; rw [hg]; exact Nat.le_refl _⟩
  rw [← hg]
  refine ⟨_, rfl, HW1.out.fr, fun hHeld => ?_⟩
  clear hw1 hf1 hg
  simp only [Act.put, List.setIfInBounds_toArray, List.set_cons_zero, List.set_cons_succ]
  refine call_at (i := 3) (f := ?_) (args := ?_) rfl (by kernel_rfl) (by rfl) ?_ ?_
  rotate_left 2
  · go_simp
    (try (first | with_reducible rfl | (apply And.intro <;> rfl)))
  refine (int_head wa w1 g _ HW1.out x.q HX.out.q.1 HX.out.q.2 (by decide)).mono ?_
  rintro e w2 ⟨rfl, hw2⟩
  have HW2 := Lib.hid hw2
  refine ⟨_, rfl, hw2.fr, fun hHeld => ?_⟩
  clear hw2 HW1
  simp only [Act.put, List.setIfInBounds_toArray, List.set_cons_zero, List.set_cons_succ]
  refine call_at (i := 6) (f := ?_) (args := ?_) rfl (by kernel_rfl) (by rfl) ?_ ?_
  rotate_left 2
  · go_simp
    (try (first | with_reducible rfl | (apply And.intro <;> rfl)))
  refine (int_head wa w2 g _ HW2.out x.f HX.out.f.1 HX.out.f.2 (by have b0 := encI_len x.q HX.out.q.2; simp only [List.nil_append]; omega)).mono ?_
  rintro e w3 ⟨rfl, hw3⟩
  have HW3 := Lib.hid hw3
  refine ⟨_, rfl, hw3.fr, fun hHeld => ?_⟩
  clear hw3 HW2
  simp only [Act.put, List.setIfInBounds_toArray, List.set_cons_zero, List.set_cons_succ]
  refine call_at (i := 9) (f := ?_) (args := ?_) rfl (by kernel_rfl) (by rfl) ?_ ?_
  rotate_left 2
  · go_simp
    (try (first | with_reducible rfl | (apply And.intro <;> rfl)))
  refine (int_head wa w3 g _ HW3.out x.t HX.out.t.1 HX.out.t.2 (by have b0 := encI_len x.q HX.out.q.2; have b1 := encI_len x.f HX.out.f.2; simp only [List.nil_append, List.length_append]; omega)).mono ?_
  rintro e w4 ⟨rfl, hw4⟩
  have HW4 := Lib.hid hw4
  refine ⟨_, rfl, hw4.fr, fun hHeld => ?_⟩
  clear hw4 HW3
  simp only [Act.put, List.setIfInBounds_toArray, List.set_cons_zero, List.set_cons_succ]
  refine run_at (i := 10) (v := ?_) rfl (by kernel_rfl) (by rfl) (fun _ _ _ h => h) hHeld (fun w1 hw1 => ?_) ?_
  rotate_left 1
  · skip
    go_simp
    (try (first | with_reducible rfl | (apply And.intro <;> rfl)))
  simp only [Act.put, List.setIfInBounds_toArray, List.set_cons_zero, List.set_cons_succ]
  refine wpAnyH_done (by kernel_rfl) ?_ _
  have HR4 : Hid (w4.rangeAt w.heap.size 0 C) := Lib.hid (HW4.out.fr.range HRG.out (by simp))
  go_wp2_with (refine wpList_load_mid rfl 61 _ rfl w.heap.size 0 rfl C _ HR4.out Tryz.underlying61 rfl (row_msg.of HLN.out).2 ?_)
  refine (HW4.out.calls fun S1 k1 f1 s1 => mput_any x w4 S1 g _ k1 (by have b0 := encI_len x.q HX.out.q.2; have b1 := encI_len x.f HX.out.f.2; have b2 := encI_len x.t HX.out.t.2; simp only [List.nil_append, List.length_append]; omega) (HXA.out.keep f1 (fun k hk hl => absurd (s1 k hk) (by omega))) C HRC.out).mono ?_
  rintro e w5 ⟨rfl, hw5⟩
  have HW5 : Hid (NewWr wa w5 g x.bytes) := Lib.hid (by rw [Wmg.bytes]; simpa using hw5)
  clear hw5 HW4
  by_cases hm : 1 ≤ x.q ∧ x.q ≤ 14
  · rw [decide_eq_true hm]
    have HM := Lib.hid hm
    clear hm
    go_wp2_with fail
    refine (bytes_head wa w5 g _ HW5.out (by have := HBL.out; omega)).mono ?_
    rintro e w6 ⟨A6, c6, rfl, hn6⟩
    have HN6 := Lib.hid hn6
    clear hn6 HW5
    have hbig : ¬ (65536 < (x.bytes.length : Int)) := by have := HBL.out; omega
    have hbig2 : ¬ (65536 < x.bytes.length) := by have := HBL.out; omega
    go_wp2_with fail
    go_ret2
    unfold PackPost
    rw [if_pos HM.out]
    exact ⟨A6, c6, rfl, HN6.out.1, HF0.out.and HN6.out.2.1 (by simp), fun k hk => Nat.le_trans HF0.out.size (HN6.out.2.2 k hk)⟩
  · rw [decide_eq_false hm]
    have HM := Lib.hid hm
    clear hm
    go_wp2_with fail
    go_ret2
    unfold PackPost
    rw [if_neg HM.out]
    exact ⟨rfl, HF0.out.and HW5.out.fr (by simp)⟩
end Go.Proofs.YtnpjihdhpoddgaaGreat

namespace Go.Proofs.YtnpjihdhpoddgaaGreat
open Go.RowKit
set_option maxRecDepth 100000

theorem Blk.mid {g : Nat} {t : TypeId} : ∀ (V M P Z : List Value) (w : World), V.length = M.length → Blk w g t (P ++ (M ++ Z)).toArray → Blk (w.setCells g P.length V) g t (P ++ (V ++ Z)).toArray
  | [], M, P, Z, w, h, hb => by
    have : M = [] := List.eq_nil_of_length_eq_zero (by simpa using h.symm)
    subst this
    exact hb
  | v :: V, [], P, Z, w, h, hb => by simp at h
  | v :: V, m :: M, P, Z, w, h, hb => by
    have h1 := hb.set P.length v
    rw [List.setIfInBounds_toArray, List.set_append_right _ _ (Nat.le_refl _), Nat.sub_self] at h1
    have h2 := Blk.mid V M (P ++ [v]) Z (w.setCell ⟨g, P.length, none⟩ v) (by simpa using h) (by simpa using h1)
    have e : (P ++ [v]).length = P.length + 1 := by simp
    rw [e] at h2
    simpa [World.setCells] using h2
theorem Blk.mid_at {g : Nat} {t : TypeId} {w : World} (V M P Z : List Value) (o : Nat) (ho : P.length = o) (h : V.length = M.length) (cs cs' : List Value) (hc : cs = P ++ (M ++ Z)) (hc' : cs' = P ++ (V ++ Z)) (hb : Blk w g t cs.toArray) : Blk (w.setCells g o V) g t cs'.toArray := by
  subst ho
  subst hc
  subst hc'
  exact Blk.mid V M P Z w h hb
theorem Fr.setCells {S : List Nat} {a : World} {g : Nat} (hg : g < a.heap.size → g ∈ S) : ∀ (V : List Value) (o : Nat) (w : World), Fr S a w → Fr S a (w.setCells g o V)
  | [], _, _, h => h
  | v :: V, o, w, h => Fr.setCells hg V (o + 1) _ (h.setCell ⟨g, o, none⟩ hg v)
theorem own_blk {w : World} {base : Nat} {e : TypeId} {k n c g : Nat} {xs : List Value} (h : w.ownsRow base e k (.slice (some ⟨g, 0, none⟩) n c) n xs) : ∃ R : List Value, Blk w g e (xs ++ R).toArray ∧ (xs ++ R).length = c * k ∧ n ≤ c ∧ c ≤ maxLen ∧ base ≤ g := by
  rcases h.2 with ⟨hv, _⟩ | ⟨g', cap, cur, hv, hb, hh, hnc, hcm, hcs, htk⟩
  · injection hv with h1
    cases h1
  · injection hv with h1 h2 h3
    injection h1 with h1
    injection h1 with h1
    subst h1
    subst h3
    refine ⟨cur.toList.drop (n * k), ?_, ?_, hnc, hcm, hb⟩
    · have e : (xs ++ cur.toList.drop (n * k)).toArray = cur := by rw [← htk, List.take_append_drop]
      unfold Blk
      rw [e]
      exact hh
    · rw [← htk, List.take_append_drop]
      simpa using hcs
/-- an element of a row that the call owns is stored -/
theorem own_put {α : Type} {cells : α → List Value} {w : World} {base : Nat} {e : TypeId} {k n c g : Nat} {l : List α} (h : w.ownsRow base e k (.slice (some ⟨g, 0, none⟩) n c) n (l.flatMap cells)) (hk : ∀ v ∈ l, (cells v).length = k) {i : Nat} (hi : i < l.length) (v : α) (hv : (cells v).length = k) :
    (w.setCells g (i * k) (cells v)).ownsRow base e k (.slice (some ⟨g, 0, none⟩) n c) n ((l.set i v).flatMap cells) ∧ w.there g (i * k) k := by
  obtain ⟨P, x, Q, rfl, hP⟩ : ∃ P x Q, l = P ++ x :: Q ∧ P.length = i := ⟨l.take i, l[i], l.drop (i + 1), by simp, by simp; omega⟩
  obtain ⟨R, hb, hl, hnc, hcm, hbase⟩ := own_blk h
  have hp : (P.flatMap cells).length = i * k := by rw [cells_flat_len (fun u hu => hk u (by simp [hu])), hP]
  have hx : (cells x).length = k := hk x (by simp)
  have hs : (P ++ x :: Q).set i v = P ++ v :: Q := by rw [← hP, List.set_append_right _ _ (Nat.le_refl _), Nat.sub_self]; rfl
  rw [hs]
  have hc : (P ++ x :: Q).flatMap cells ++ R = P.flatMap cells ++ (cells x ++ (Q.flatMap cells ++ R)) := by simp
  have hc' : (P ++ v :: Q).flatMap cells ++ R = P.flatMap cells ++ (cells v ++ (Q.flatMap cells ++ R)) := by simp
  have hb2 := Blk.mid_at (cells v) (cells x) (P.flatMap cells) (Q.flatMap cells ++ R) (i * k) hp (by rw [hv, hx]) _ _ hc hc' hb
  have hlen : ((P ++ v :: Q).flatMap cells).length = ((P ++ x :: Q).flatMap cells).length := by simp [hv, hx]
  have h1 := h.1
  refine ⟨⟨by rw [hlen]; exact h1, .inr ⟨g, c, _, rfl, hbase, hb2, hnc, hcm, ?_, ?_⟩⟩, hb.there _ _ ?_⟩
  · rw [List.size_toArray, ← hl, List.length_append, List.length_append, hlen]
  · rw [← h1, ← hlen]
    exact List.take_left
  · rw [List.size_toArray, hc]
    simp only [List.length_append]
    omega
theorem add_at (g o : Nat) : (⟨g, 0, none⟩ : Addr).add o = ⟨g, o, none⟩ := by unfold Addr.add; split <;> simp_all

def upI (v : Int) : Int := v % 1099511627776
theorem upI_in (v : Int) : i64In (upI v) := by unfold i64In upI; omega
theorem upI_idem (v : Int) : upI (upI v) = upI v := by unfold upI; omega
theorem row_nm2 : RowTy Tryz.prog 23 2 := ⟨by kernel_rfl, by kernel_rfl⟩
theorem row_sg2 : RowTy Tryz.prog 27 2 := ⟨by kernel_rfl, by kernel_rfl⟩
theorem built_nm3 (c s : Int) : Tryz.prog.built 23 [(0, .int .i64 c), (1, .int .i64 s)] = some #[.int .i64 c, .int .i64 s] := by kernel_rfl
theorem built_sg3 (c s : Int) : Tryz.prog.built 27 [(0, .int .i64 c), (1, .int .i64 s)] = some #[.int .i64 c, .int .i64 s] := by kernel_rfl

end Go.Proofs.YtnpjihdhpoddgaaGreat

namespace Go.Proofs.YtnpjihdhpoddgaaGreat
open Go.RowKit
set_option maxRecDepth 100000
def nst (x : Wst) : Wst := ⟨upI x.r, upI x.c, upI x.s, x.h, x.t, upI x.b, upI x.m⟩
def ncm (x : Wcm) : Wcm := ⟨upI x.c, upI x.s, x.h, upI x.n, upI x.b, upI x.m⟩
theorem nst_idem (x : Wst) : nst (nst x) = nst x := by simp [nst, upI_idem]
theorem ncm_idem (x : Wcm) : ncm (ncm x) = ncm x := by simp [ncm, upI_idem]
theorem nst_ok {x : Wst} (h : x.Ok) : (nst x).Ok := ⟨upI_in _, upI_in _, upI_in _, h.h, h.t, upI_in _, upI_in _⟩
theorem ncm_ok {x : Wcm} (h : x.Ok) : (ncm x).Ok := ⟨upI_in _, upI_in _, h.h, upI_in _, upI_in _, upI_in _⟩
theorem mix_set {α : Type} (f : α → α) (l : List α) {k : Nat} (hk : k < l.length) : ((l.take k).map f ++ l.drop k).set k (f l[k]) = (l.take (k + 1)).map f ++ l.drop (k + 1) := by
  have h1 : ((l.take k).map f).length = k := by simp; omega
  rw [List.set_append_right _ _ (by omega), h1, Nat.sub_self, List.drop_eq_getElem_cons hk, List.set_cons_zero, List.take_succ_eq_append_getElem hk, List.map_append, List.append_assoc]
  rfl
theorem mix_get {α : Type} (f : α → α) (l : List α) {k : Nat} (hk : k < l.length) : ((l.take k).map f ++ l.drop k)[k]? = some l[k] := by
  have h1 : ((l.take k).map f).length = k := by simp; omega
  rw [List.getElem?_append_right (by omega), h1, Nat.sub_self, List.drop_eq_getElem_cons hk]
  rfl
theorem mix_len {α : Type} (f : α → α) (l : List α) (k : Nat) : ((l.take k).map f ++ l.drop k).length = l.length := by simp; omega
theorem mix_mem {α : Type} (f : α → α) (l : List α) (k : Nat) {v : α} (hv : v ∈ (l.take k).map f ++ l.drop k) : v ∈ l ∨ ∃ u ∈ l, v = f u := by
  rcases List.mem_append.1 hv with h | h
  · obtain ⟨u, hu, rfl⟩ := List.mem_map.1 h
    exact .inr ⟨u, List.mem_of_mem_take hu, rfl⟩
  · exact .inl (List.mem_of_mem_drop h)
theorem row_stm : RowTy Tryz.prog 32 38 := ⟨by kernel_rfl, by kernel_rfl⟩
/-- one cell of a block that is known whole is stored -/
theorem wp_store_at {P : Program} {op : Oper} {a : Act} {w : World} {K : Act → World → Prop} {Q : Exit → Act → World → Prop} (ty : TypeId) (x y : Operand) (ho : op.op = .store ty x y)
    (g i : Nat) (v : Value) (hx : a.eval x = .pointer (some ⟨g, i, none⟩)) (hy : a.eval y = v) (h1 : v.oneCell' = true) (t : TypeId) (cs : Array Value) (hb : Blk w g t cs) (hi : i < cs.size) (hsz : (P.info? ty).map (·.size) = some 1)
    (h : K (a.put op.dst undef) (w.setCells g i [v])) : op.wp P a w K Q := by
  subst hy
  have hc := hb.cell i
  rw [Array.getElem?_eq_getElem hi] at hc
  have := run_storeCells_cells (P := P) g i [a.eval y] 0 w (fun j hj => by simp at hj; subst hj; simpa using (by rw [hc]; rfl : (w.cell? ⟨g, i, none⟩).isSome = true)) (fun j hj => by simp at hj; subst hj; simpa using hb.frozen i) (fun u hu => by simp at hu; subst hu; exact h1)
  have hcl : (a.eval y).cells = #[a.eval y] := by cases hv : a.eval y <;> first | rfl | (rw [hv] at h1; cases h1)
  have hrun : (storeVar ty ⟨g, i, none⟩ (a.eval y)).run P w = .ok () (w.setCells g i [a.eval y]) := by
    cases hq : P.info? ty with
    | none => simp [hq] at hsz
    | some j =>
      have hs : j.size = 1 := by simpa [hq] using hsz
      simp only [Nat.add_zero] at this
      simp [storeVar, sizeOf, typeInfo, hq, hcl, hs, this]
  unfold Oper.wp execOp
  simp only [ho, hx, Instr.storeAt, Instr.sureAddr, Sem.run_bind, Sem.run_pure, Result.andThen_ok, hrun]
  exact h
/-- a whole element is stored into a row that the call owns -/
theorem wp_store_el {P : Program} {op : Oper} {a : Act} {w : World} {K : Act → World → Prop} {Q : Exit → Act → World → Prop} (ty : TypeId) (x y : Operand) (ho : op.op = .store ty x y)
    (b o : Nat) (cs : List Value) (hx : a.eval x = .pointer (some ((⟨b, 0, none⟩ : Addr).add o))) (hy : a.eval y = .agg cs.toArray)
    (ht : w.there b o cs.length) (hi : (P.info? ty).map (·.size) = some cs.length) (h1 : cs.toArray.all (·.oneCell') = true)
    (h : K (a.put op.dst undef) (w.setCells b o cs)) : op.wp P a w K Q :=
  wp_store_mid ty x y ho b o cs.toArray (by rw [hx, add_at]) hy (by simpa using ht) (by simpa using hi) h1 (by simpa using h)
theorem wpList_store_el {P : Program} {ops : Array Oper} {rest : List Oper} {op : Oper} {a : Act} {w : World} {Q : Exit → Act → World → Prop} (hg : op.guard = none) (ty : TypeId) (x y : Operand) (ho : op.op = .store ty x y)
    (b o : Nat) (cs : List Value) (hx : a.eval x = .pointer (some ((⟨b, 0, none⟩ : Addr).add o))) (hy : a.eval y = .agg cs.toArray)
    (ht : w.there b o cs.length) (hi : (P.info? ty).map (·.size) = some cs.length) (h1 : cs.toArray.all (·.oneCell') = true)
    (h : wpList P ops Q rest (a.put op.dst undef) (w.setCells b o cs)) : wpList P ops Q (op :: rest) a w :=
  wpList_plain hg fun _ hK => wp_store_el ty x y ho b o cs hx hy ht hi h1 (hK _ _ h)
theorem blk_ce1 {w : World} {g : Nat} {t : TypeId} {k : Wcm} {c s : Int} {u : Value} (hb : Blk w g t (k.cells ++ [u]).toArray) :
    Blk (w.setCells g 0 [.int .i64 c, .int .i64 s]) g t ((⟨c, s, k.h, k.n, k.b, k.m⟩ : Wcm).cells ++ [u]).toArray :=
  Blk.mid_at [.int .i64 c, .int .i64 s] [.int .i64 k.c, .int .i64 k.s] [] (k.h.map by8 ++ [.int .i64 k.n, .int .i64 k.b, .int .i64 k.m] ++ [u]) 0 rfl rfl _ _ (by simp [Wcm.cells]) (by simp [Wcm.cells]) hb
theorem blk_ce2 {w : World} {g : Nat} {t : TypeId} {k : Wcm} (hh : k.h.length = 32) {n : Int} {u : Value} (hb : Blk w g t (k.cells ++ [u]).toArray) :
    Blk (w.setCells g 34 [.int .i64 n]) g t ((⟨k.c, k.s, k.h, n, k.b, k.m⟩ : Wcm).cells ++ [u]).toArray :=
  Blk.mid_at [.int .i64 n] [.int .i64 k.n] ([.int .i64 k.c, .int .i64 k.s] ++ k.h.map by8) ([.int .i64 k.b, .int .i64 k.m] ++ [u]) 34 (by simp [hh]) rfl _ _ (by simp [Wcm.cells]) (by simp [Wcm.cells]) hb
theorem blk_ce3 {w : World} {g : Nat} {t : TypeId} {k : Wcm} (hh : k.h.length = 32) {b m : Int} {u : Value} (hb : Blk w g t (k.cells ++ [u]).toArray) :
    Blk (w.setCells g 35 [.int .i64 b, .int .i64 m]) g t ((⟨k.c, k.s, k.h, k.n, b, m⟩ : Wcm).cells ++ [u]).toArray :=
  Blk.mid_at [.int .i64 b, .int .i64 m] [.int .i64 k.b, .int .i64 k.m] ([.int .i64 k.c, .int .i64 k.s] ++ k.h.map by8 ++ [.int .i64 k.n]) [u] 35 (by simp [hh]) rfl _ _ (by simp [Wcm.cells]) (by simp [Wcm.cells]) hb
theorem blk_st1 {w : World} {g : Nat} {t : TypeId} {x : Wst} {r : Int} (hb : Blk w g t x.cells.toArray) : Blk (w.setCells g 0 [.int .i64 r]) g t (⟨r, x.c, x.s, x.h, x.t, x.b, x.m⟩ : Wst).cells.toArray :=
  Blk.mid_at [.int .i64 r] [.int .i64 x.r] [] ([.int .i64 x.c, .int .i64 x.s] ++ (x.h.map by8 ++ [.int .u64 (x.t : Int), .int .i64 x.b, .int .i64 x.m])) 0 rfl rfl _ _ (by simp [Wst.cells]) (by simp [Wst.cells]) hb
theorem blk_st2 {w : World} {g : Nat} {t : TypeId} {x : Wst} {c s : Int} (hb : Blk w g t x.cells.toArray) : Blk (w.setCells g 1 [.int .i64 c, .int .i64 s]) g t (⟨x.r, c, s, x.h, x.t, x.b, x.m⟩ : Wst).cells.toArray :=
  Blk.mid_at [.int .i64 c, .int .i64 s] [.int .i64 x.c, .int .i64 x.s] [.int .i64 x.r] (x.h.map by8 ++ [.int .u64 (x.t : Int), .int .i64 x.b, .int .i64 x.m]) 1 rfl rfl _ _ (by simp [Wst.cells]) (by simp [Wst.cells]) hb
theorem blk_st3 {w : World} {g : Nat} {t : TypeId} {x : Wst} (hh : x.h.length = 32) {b m : Int} (hb : Blk w g t x.cells.toArray) : Blk (w.setCells g 36 [.int .i64 b, .int .i64 m]) g t (⟨x.r, x.c, x.s, x.h, x.t, b, m⟩ : Wst).cells.toArray :=
  Blk.mid_at [.int .i64 b, .int .i64 m] [.int .i64 x.b, .int .i64 x.m] ([.int .i64 x.r, .int .i64 x.c, .int .i64 x.s] ++ x.h.map by8 ++ [.int .u64 (x.t : Int)]) [] 36 (by simp [hh]) rfl _ _ (by simp [Wst.cells]) (by simp [Wst.cells]) hb

end Go.Proofs.YtnpjihdhpoddgaaGreat

namespace Go.Proofs.YtnpjihdhpoddgaaGreat
open Go.RowKit
set_option maxRecDepth 100000
/-- its hashes are hashes -/
structure Wmg.Len (x : Wmg) : Prop where
  cm : x.cm.h.length = 32
  st : x.st.h.length = 32
  ce : x.ce.k.h.length = 32
  ak : x.ak.h.length = 32
  vt : x.vt.h.length = 32
  en : x.en.h.length = 32
  op : x.op.h.length = 32
def mh0 : List UInt8 := List.replicate 32 0
def mb0 : Wba := ⟨0, 0, none, 0, 0, [], none, 0, 0, [], none, 0, 0, []⟩
/-- a message of nothing but its kind, whom it is from and to -/
def mz (q f t : Int) : Wmg := ⟨q, f, t, ⟨0, 0, mh0, 0, 0, 0⟩, ⟨0, 0, 0, mh0, 0, 0, 0⟩, ⟨⟨0, 0, mh0, 0, 0, 0⟩, none, 0, 0, []⟩, ⟨0, 0, 0, mh0, 0, 0, 0⟩, 0, 0, 0, ⟨0, 0, 0, none, 0, 0, [], 0, 0⟩, ⟨0, 0, 0, 0, mb0, 0, 0⟩, ⟨0, 0, 0, 0, mh0, 0, 0⟩, 0, ⟨0, 0, mh0, 0⟩, ⟨0, none, 0, 0, [], mh0⟩, ⟨0, 0, 0, 0⟩, [], ⟨0, 0, mb0, none, 0, 0, []⟩⟩
theorem mz_len (q f t : Int) : (mz q f t).Len := ⟨rfl, rfl, rfl, rfl, rfl, rfl, rfl⟩
theorem Wpo.Li.keep {w W : World} {S S' : List Nat} {x : Wpo} (h : x.Li w S) (hf : Fr S w W) (hs : ∀ k ∈ S', k < w.heap.size → k ∈ S) : x.Li W S' :=
  ⟨h.e, h.r, h.v, h.p, h.k.keep hf hs, h.b, h.m⟩
theorem Wdc.Li.keep {w W : World} {S S' : List Nat} {x : Wdc} (h : x.Li w S) (hf : Fr S w W) (hs : ∀ k ∈ S', k < w.heap.size → k ∈ S) : x.Li W S' :=
  ⟨h.e, h.r, h.k.keep hf hs, h.l.keep' hf h.ap (fun _ _ h => h), h.n, fun hn a ha hin => h.ap hn a ha (hs _ hin (h.l.lt hn (by decide) (fun v hv => Wvt.len (h.l.2.1 v hv).2.h) a ha))⟩
theorem Blk.thereM {w : World} {g : Nat} {t : TypeId} {cs : Array Value} (h : Blk w g t cs) (o n : Nat) (hn : o + n ≤ cs.size) : w.there g o n := fun j hj => by
  have hc := h.cell (o + j)
  rw [Array.getElem?_eq_getElem (by omega)] at hc
  exact ⟨by rw [hc]; rfl, h.frozen (o + j)⟩
theorem Wmg.lenz {x : Wmg} (hx : x.Len) : x.cells.length = 295 := by
  simp only [Wmg.cells, List.length_append, List.length_cons, List.length_nil, Wcm.len hx.cm, Wst.len hx.st, Wce.len hx.ce, Wst.len hx.ak, Wpr.len, Wpo.len, Wvt.len hx.vt, Wen.len hx.en, Wop.len hx.op, Wdn.len, Wdc.len]
theorem Wmg.blk_cm {w : World} {g : Nat} {t : TypeId} {x : Wmg} (hx : x.Len) (v : Wcm) (hv : v.cells.length = 37) (hb : Blk w g t x.cells.toArray) : Blk (w.setCells g 3 v.cells) g t ({x with cm := v} : Wmg).cells.toArray :=
  Blk.mid_at v.cells x.cm.cells ([.int .i64 x.q] ++ ([.int .i64 x.f] ++ ([.int .i64 x.t]))) (x.st.cells ++ (x.ce.cells ++ (x.ak.cells ++ ([.int .i64 x.e] ++ ([.int .i64 x.r] ++ ([.int .u64 (x.tm : Int)] ++ (x.pr.cells ++ (x.po.cells ++ (x.vt.cells ++ ([.int .i64 x.i] ++ (x.en.cells ++ (x.op.cells ++ (x.dn.cells ++ ([.string ⟨x.rp.toArray⟩] ++ (x.de.cells))))))))))))))) 3 (by simp only [List.length_append, List.length_cons, List.length_nil]) (by rw [hv, Wcm.len hx.cm]) _ _ (by simp only [Wmg.cells, List.append_assoc, List.append_nil]) (by simp only [Wmg.cells, List.append_assoc, List.append_nil]) hb
set_option maxHeartbeats 2000000 in
theorem mget_cm (x : Wmg) (hz : x.Len) (hq : x.q = 1) (w : World) (F : List Nat) (g gm : Nat) (s : Ps) (hr : Rs w F g s) (hb : Blk w gm 61 x.cells.toArray) (hgm : gm ≠ g) (hF : ¬ gm ∈ F) :
    Calls Tryz.prog 58 #[.pointer (some ⟨g, 0, none⟩), .pointer (some ⟨gm, 0, none⟩)] w fun e w' => ∃ v : Wcm, e = .returned (.bool true) ∧ v = (pCm s).1 ∧ (∀ S0 : List Nat, (∀ q ∈ S0, q < w.heap.size) → v.Ok) ∧ Blk w' gm 61 ({x with cm := v} : Wmg).cells.toArray ∧ Rs w' F g (pCm s).2 ∧ Fr [g, gm] w w' := by
  have hq0 : w.cell? ⟨gm, 0, none⟩ = some (.int .i64 1) := by have h := hb.range (cs := x.cells) 0 (.int .i64 x.q) rfl; rw [hq] at h; exact h
  have HR := Lib.hid hr
  have HB := Lib.hid hb
  have HGM := Lib.hid hgm
  have HNF := Lib.hid hF
  have HZ := Lib.hid hz
  have HBS : Hid (x.cells.toArray.size = 295) := Lib.hid (by rw [List.size_toArray]; exact Wmg.lenz hz)
  clear hr hb hgm hF hq hz
  go_enter Tryz.func58, Tryz.ntmps58
  go_wp2_with fail
  refine ((gets_of (fun _ _ _ _ hr => getCommit_any hr) pCm_ok) w F g s HR.out).mono ?_
  rintro e w1 ⟨v, rfl, hcv, hok, h1, h2⟩
  have HB1 := Lib.hid (HB.out.keep h2 (by have := HGM.out; simpa using this))
  have HCV := Lib.hid hcv
  have HOK := Lib.hid hok
  have HR1 := Lib.hid h1
  have HF1 := Lib.hid h2
  have HVL : Hid (v.cells.length = 37) := Lib.hid (by have hok_ := hok [] (by simp); exact Wcm.len (hok_.h))
  have HONE : Hid (v.cells.toArray.all (·.oneCell') = true) := Lib.hid (all_oneCell_toArray (Wcm.one v))
  have HB2 := Lib.hid (Wmg.blk_cm HZ.out v HVL.out HB1.out)
  have HTH : Hid (w1.there gm 3 v.cells.toArray.size) := Lib.hid (HB1.out.thereM _ _ (by rw [List.size_toArray, HVL.out, HBS.out]; omega))
  have HSZ : Hid ((Tryz.prog.info? 29).map (·.size) = some v.cells.toArray.size) := Lib.hid (by rw [List.size_toArray, HVL.out]; kernel_rfl)
  have HF2 : Hid (Fr [gm] w1 (w1.setCells gm 3 v.cells)) := Lib.hid (Fr.setCells (fun _ => by simp) v.cells 3 w1 (Fr.refl _ _))
  clear hcv hok h1 h2
  obtain ⟨V, hV⟩ : ∃ V : List Value, V = v.cells := ⟨_, rfl⟩
  rw [← hV] at HVL HONE HTH HSZ HF2 HB2 ⊢
  have HVV := Lib.hid hV
  clear hV
  go_wp2_with (refine wpList_store_mid rfl 29 _ _ rfl gm 3 V.toArray rfl rfl HTH.out HSZ.out HONE.out ?_)
  change bodyPost _ _ _ _ _ (w1.setCells gm 3 V)
  generalize w1.setCells gm 3 V = w2 at *
  go_ret
  exact ⟨v, rfl, HCV.out, fun S0 h0 => HOK.out S0 h0, HB2.out, HR1.out.fr HF2.out (by have := HGM.out; simp; exact fun h => this h.symm) (fun q hq hm => HNF.out (by simp at hm; exact hm ▸ hq)), (HF1.out.mono (fun q hq _ => by simp at hq; simp [hq])).trans HF2.out (fun q hq _ => by simp at hq; simp [hq])⟩
theorem Wmg.blk_st {w : World} {g : Nat} {t : TypeId} {x : Wmg} (hx : x.Len) (v : Wst) (hv : v.cells.length = 38) (hb : Blk w g t x.cells.toArray) : Blk (w.setCells g 40 v.cells) g t ({x with st := v} : Wmg).cells.toArray :=
  Blk.mid_at v.cells x.st.cells ([.int .i64 x.q] ++ ([.int .i64 x.f] ++ ([.int .i64 x.t] ++ (x.cm.cells)))) (x.ce.cells ++ (x.ak.cells ++ ([.int .i64 x.e] ++ ([.int .i64 x.r] ++ ([.int .u64 (x.tm : Int)] ++ (x.pr.cells ++ (x.po.cells ++ (x.vt.cells ++ ([.int .i64 x.i] ++ (x.en.cells ++ (x.op.cells ++ (x.dn.cells ++ ([.string ⟨x.rp.toArray⟩] ++ (x.de.cells)))))))))))))) 40 (by simp only [List.length_append, List.length_cons, List.length_nil, Wcm.len hx.cm]) (by rw [hv, Wst.len hx.st]) _ _ (by simp only [Wmg.cells, List.append_assoc, List.append_nil]) (by simp only [Wmg.cells, List.append_assoc, List.append_nil]) hb
set_option maxHeartbeats 2000000 in
theorem mget_st (x : Wmg) (hz : x.Len) (hq : x.q = 2) (w : World) (F : List Nat) (g gm : Nat) (s : Ps) (hr : Rs w F g s) (hb : Blk w gm 61 x.cells.toArray) (hgm : gm ≠ g) (hF : ¬ gm ∈ F) :
    Calls Tryz.prog 58 #[.pointer (some ⟨g, 0, none⟩), .pointer (some ⟨gm, 0, none⟩)] w fun e w' => ∃ v : Wst, e = .returned (.bool true) ∧ v = (pSt s).1 ∧ (∀ S0 : List Nat, (∀ q ∈ S0, q < w.heap.size) → v.Ok) ∧ Blk w' gm 61 ({x with st := v} : Wmg).cells.toArray ∧ Rs w' F g (pSt s).2 ∧ Fr [g, gm] w w' := by
  have hq0 : w.cell? ⟨gm, 0, none⟩ = some (.int .i64 2) := by have h := hb.range (cs := x.cells) 0 (.int .i64 x.q) rfl; rw [hq] at h; exact h
  have HR := Lib.hid hr
  have HB := Lib.hid hb
  have HGM := Lib.hid hgm
  have HNF := Lib.hid hF
  have HZ := Lib.hid hz
  have HBS : Hid (x.cells.toArray.size = 295) := Lib.hid (by rw [List.size_toArray]; exact Wmg.lenz hz)
  clear hr hb hgm hF hq hz
  go_enter Tryz.func58, Tryz.ntmps58
  go_wp2_with fail
  refine ((gets_of (fun _ _ _ _ hr => getStamp_any hr) pSt_ok) w F g s HR.out).mono ?_
  rintro e w1 ⟨v, rfl, hcv, hok, h1, h2⟩
  have HB1 := Lib.hid (HB.out.keep h2 (by have := HGM.out; simpa using this))
  have HCV := Lib.hid hcv
  have HOK := Lib.hid hok
  have HR1 := Lib.hid h1
  have HF1 := Lib.hid h2
  have HVL : Hid (v.cells.length = 38) := Lib.hid (by have hok_ := hok [] (by simp); exact Wst.len (hok_.h))
  have HONE : Hid (v.cells.toArray.all (·.oneCell') = true) := Lib.hid (all_oneCell_toArray (Wst.one v))
  have HB2 := Lib.hid (Wmg.blk_st HZ.out v HVL.out HB1.out)
  have HTH : Hid (w1.there gm 40 v.cells.toArray.size) := Lib.hid (HB1.out.thereM _ _ (by rw [List.size_toArray, HVL.out, HBS.out]; omega))
  have HSZ : Hid ((Tryz.prog.info? 32).map (·.size) = some v.cells.toArray.size) := Lib.hid (by rw [List.size_toArray, HVL.out]; kernel_rfl)
  have HF2 : Hid (Fr [gm] w1 (w1.setCells gm 40 v.cells)) := Lib.hid (Fr.setCells (fun _ => by simp) v.cells 40 w1 (Fr.refl _ _))
  clear hcv hok h1 h2
  obtain ⟨V, hV⟩ : ∃ V : List Value, V = v.cells := ⟨_, rfl⟩
  rw [← hV] at HVL HONE HTH HSZ HF2 HB2 ⊢
  have HVV := Lib.hid hV
  clear hV
  go_wp2_with (refine wpList_store_mid rfl 32 _ _ rfl gm 40 V.toArray rfl rfl HTH.out HSZ.out HONE.out ?_)
  change bodyPost _ _ _ _ _ (w1.setCells gm 40 V)
  generalize w1.setCells gm 40 V = w2 at *
  go_ret
  exact ⟨v, rfl, HCV.out, fun S0 h0 => HOK.out S0 h0, HB2.out, HR1.out.fr HF2.out (by have := HGM.out; simp; exact fun h => this h.symm) (fun q hq hm => HNF.out (by simp at hm; exact hm ▸ hq)), (HF1.out.mono (fun q hq _ => by simp at hq; simp [hq])).trans HF2.out (fun q hq _ => by simp at hq; simp [hq])⟩
theorem Wmg.blk_ce {w : World} {g : Nat} {t : TypeId} {x : Wmg} (hx : x.Len) (v : Wce) (hv : v.cells.length = 38) (hb : Blk w g t x.cells.toArray) : Blk (w.setCells g 78 v.cells) g t ({x with ce := v} : Wmg).cells.toArray :=
  Blk.mid_at v.cells x.ce.cells ([.int .i64 x.q] ++ ([.int .i64 x.f] ++ ([.int .i64 x.t] ++ (x.cm.cells ++ (x.st.cells))))) (x.ak.cells ++ ([.int .i64 x.e] ++ ([.int .i64 x.r] ++ ([.int .u64 (x.tm : Int)] ++ (x.pr.cells ++ (x.po.cells ++ (x.vt.cells ++ ([.int .i64 x.i] ++ (x.en.cells ++ (x.op.cells ++ (x.dn.cells ++ ([.string ⟨x.rp.toArray⟩] ++ (x.de.cells))))))))))))) 78 (by simp only [List.length_append, List.length_cons, List.length_nil, Wcm.len hx.cm, Wst.len hx.st]) (by rw [hv, Wce.len hx.ce]) _ _ (by simp only [Wmg.cells, List.append_assoc, List.append_nil]) (by simp only [Wmg.cells, List.append_assoc, List.append_nil]) hb
set_option maxHeartbeats 2000000 in
theorem mget_ce (x : Wmg) (hz : x.Len) (hq : x.q = 3) (w : World) (F : List Nat) (g gm : Nat) (s : Ps) (hr : Rs w F g s) (hb : Blk w gm 61 x.cells.toArray) (hgm : gm ≠ g) (hF : ¬ gm ∈ F) :
    Calls Tryz.prog 58 #[.pointer (some ⟨g, 0, none⟩), .pointer (some ⟨gm, 0, none⟩)] w fun e w' => ∃ v : Wce, e = .returned (.bool true) ∧ v.con = (pCe s).1 ∧ (∀ S0 : List Nat, (∀ q ∈ S0, q < w.heap.size) → v.Li w' S0) ∧ Blk w' gm 61 ({x with ce := v} : Wmg).cells.toArray ∧ Rs w' F g (pCe s).2 ∧ Fr [g, gm] w w' := by
  have hq0 : w.cell? ⟨gm, 0, none⟩ = some (.int .i64 3) := by have h := hb.range (cs := x.cells) 0 (.int .i64 x.q) rfl; rw [hq] at h; exact h
  have HR := Lib.hid hr
  have HB := Lib.hid hb
  have HGM := Lib.hid hgm
  have HNF := Lib.hid hF
  have HZ := Lib.hid hz
  have HBS : Hid (x.cells.toArray.size = 295) := Lib.hid (by rw [List.size_toArray]; exact Wmg.lenz hz)
  clear hr hb hgm hF hq hz
  go_enter Tryz.func58, Tryz.ntmps58
  go_wp2_with fail
  refine (getCert_any w F g s HR.out).mono ?_
  rintro e w1 ⟨v, rfl, hcv, hok, h1, h2⟩
  have HB1 := Lib.hid (HB.out.keep h2 (by have := HGM.out; simpa using this))
  have HCV := Lib.hid hcv
  have HOK := Lib.hid hok
  have HR1 := Lib.hid h1
  have HF1 := Lib.hid h2
  have HVL : Hid (v.cells.length = 38) := Lib.hid (by have hok_ := hok [] (by simp); exact Wce.len (hok_.k.h))
  have HONE : Hid (v.cells.toArray.all (·.oneCell') = true) := Lib.hid (all_oneCell_toArray (Wce.one v))
  have HB2 := Lib.hid (Wmg.blk_ce HZ.out v HVL.out HB1.out)
  have HTH : Hid (w1.there gm 78 v.cells.toArray.size) := Lib.hid (HB1.out.thereM _ _ (by rw [List.size_toArray, HVL.out, HBS.out]; omega))
  have HSZ : Hid ((Tryz.prog.info? 35).map (·.size) = some v.cells.toArray.size) := Lib.hid (by rw [List.size_toArray, HVL.out]; kernel_rfl)
  have HF2 : Hid (Fr [gm] w1 (w1.setCells gm 78 v.cells)) := Lib.hid (Fr.setCells (fun _ => by simp) v.cells 78 w1 (Fr.refl _ _))
  clear hcv hok h1 h2
  obtain ⟨V, hV⟩ : ∃ V : List Value, V = v.cells := ⟨_, rfl⟩
  rw [← hV] at HVL HONE HTH HSZ HF2 HB2 ⊢
  have HVV := Lib.hid hV
  clear hV
  go_wp2_with (refine wpList_store_mid rfl 35 _ _ rfl gm 78 V.toArray rfl rfl HTH.out HSZ.out HONE.out ?_)
  change bodyPost _ _ _ _ _ (w1.setCells gm 78 V)
  generalize w1.setCells gm 78 V = w2 at *
  go_ret
  exact ⟨v, rfl, HCV.out, fun S0 h0 => (HOK.out (gm :: S0) (fun q hq => by rcases List.mem_cons.1 hq with rfl | hq; exact HB.out.lt; exact h0 q hq)).keep (HF2.out.mono (fun q hq _ => by simp at hq; simp [hq])) (fun q hq _ => by simp [hq]), HB2.out, HR1.out.fr HF2.out (by have := HGM.out; simp; exact fun h => this h.symm) (fun q hq hm => HNF.out (by simp at hm; exact hm ▸ hq)), (HF1.out.mono (fun q hq _ => by simp at hq; simp [hq])).trans HF2.out (fun q hq _ => by simp at hq; simp [hq])⟩
theorem Wmg.blk_ak {w : World} {g : Nat} {t : TypeId} {x : Wmg} (hx : x.Len) (v : Wst) (hv : v.cells.length = 38) (hb : Blk w g t x.cells.toArray) : Blk (w.setCells g 116 v.cells) g t ({x with ak := v} : Wmg).cells.toArray :=
  Blk.mid_at v.cells x.ak.cells ([.int .i64 x.q] ++ ([.int .i64 x.f] ++ ([.int .i64 x.t] ++ (x.cm.cells ++ (x.st.cells ++ (x.ce.cells)))))) ([.int .i64 x.e] ++ ([.int .i64 x.r] ++ ([.int .u64 (x.tm : Int)] ++ (x.pr.cells ++ (x.po.cells ++ (x.vt.cells ++ ([.int .i64 x.i] ++ (x.en.cells ++ (x.op.cells ++ (x.dn.cells ++ ([.string ⟨x.rp.toArray⟩] ++ (x.de.cells)))))))))))) 116 (by simp only [List.length_append, List.length_cons, List.length_nil, Wcm.len hx.cm, Wst.len hx.st, Wce.len hx.ce]) (by rw [hv, Wst.len hx.ak]) _ _ (by simp only [Wmg.cells, List.append_assoc, List.append_nil]) (by simp only [Wmg.cells, List.append_assoc, List.append_nil]) hb
set_option maxHeartbeats 2000000 in
theorem mget_ak (x : Wmg) (hz : x.Len) (hq : x.q = 4) (w : World) (F : List Nat) (g gm : Nat) (s : Ps) (hr : Rs w F g s) (hb : Blk w gm 61 x.cells.toArray) (hgm : gm ≠ g) (hF : ¬ gm ∈ F) :
    Calls Tryz.prog 58 #[.pointer (some ⟨g, 0, none⟩), .pointer (some ⟨gm, 0, none⟩)] w fun e w' => ∃ v : Wst, e = .returned (.bool true) ∧ v = (pSt s).1 ∧ (∀ S0 : List Nat, (∀ q ∈ S0, q < w.heap.size) → v.Ok) ∧ Blk w' gm 61 ({x with ak := v} : Wmg).cells.toArray ∧ Rs w' F g (pSt s).2 ∧ Fr [g, gm] w w' := by
  have hq0 : w.cell? ⟨gm, 0, none⟩ = some (.int .i64 4) := by have h := hb.range (cs := x.cells) 0 (.int .i64 x.q) rfl; rw [hq] at h; exact h
  have HR := Lib.hid hr
  have HB := Lib.hid hb
  have HGM := Lib.hid hgm
  have HNF := Lib.hid hF
  have HZ := Lib.hid hz
  have HBS : Hid (x.cells.toArray.size = 295) := Lib.hid (by rw [List.size_toArray]; exact Wmg.lenz hz)
  clear hr hb hgm hF hq hz
  go_enter Tryz.func58, Tryz.ntmps58
  go_wp2_with fail
  refine ((gets_of (fun _ _ _ _ hr => getAck_any hr) pSt_ok) w F g s HR.out).mono ?_
  rintro e w1 ⟨v, rfl, hcv, hok, h1, h2⟩
  have HB1 := Lib.hid (HB.out.keep h2 (by have := HGM.out; simpa using this))
  have HCV := Lib.hid hcv
  have HOK := Lib.hid hok
  have HR1 := Lib.hid h1
  have HF1 := Lib.hid h2
  have HVL : Hid (v.cells.length = 38) := Lib.hid (by have hok_ := hok [] (by simp); exact Wst.len (hok_.h))
  have HONE : Hid (v.cells.toArray.all (·.oneCell') = true) := Lib.hid (all_oneCell_toArray (Wst.one v))
  have HB2 := Lib.hid (Wmg.blk_ak HZ.out v HVL.out HB1.out)
  have HTH : Hid (w1.there gm 116 v.cells.toArray.size) := Lib.hid (HB1.out.thereM _ _ (by rw [List.size_toArray, HVL.out, HBS.out]; omega))
  have HSZ : Hid ((Tryz.prog.info? 37).map (·.size) = some v.cells.toArray.size) := Lib.hid (by rw [List.size_toArray, HVL.out]; kernel_rfl)
  have HF2 : Hid (Fr [gm] w1 (w1.setCells gm 116 v.cells)) := Lib.hid (Fr.setCells (fun _ => by simp) v.cells 116 w1 (Fr.refl _ _))
  clear hcv hok h1 h2
  obtain ⟨V, hV⟩ : ∃ V : List Value, V = v.cells := ⟨_, rfl⟩
  rw [← hV] at HVL HONE HTH HSZ HF2 HB2 ⊢
  have HVV := Lib.hid hV
  clear hV
  go_wp2_with (refine wpList_store_mid rfl 37 _ _ rfl gm 116 V.toArray rfl rfl HTH.out HSZ.out HONE.out ?_)
  change bodyPost _ _ _ _ _ (w1.setCells gm 116 V)
  generalize w1.setCells gm 116 V = w2 at *
  go_ret
  exact ⟨v, rfl, HCV.out, fun S0 h0 => HOK.out S0 h0, HB2.out, HR1.out.fr HF2.out (by have := HGM.out; simp; exact fun h => this h.symm) (fun q hq hm => HNF.out (by simp at hm; exact hm ▸ hq)), (HF1.out.mono (fun q hq _ => by simp at hq; simp [hq])).trans HF2.out (fun q hq _ => by simp at hq; simp [hq])⟩
theorem Wmg.blk_pr {w : World} {g : Nat} {t : TypeId} {x : Wmg} (hx : x.Len) (v : Wpr) (hv : v.cells.length = 6) (hb : Blk w g t x.cells.toArray) : Blk (w.setCells g 157 v.cells) g t ({x with pr := v} : Wmg).cells.toArray :=
  Blk.mid_at v.cells x.pr.cells ([.int .i64 x.q] ++ ([.int .i64 x.f] ++ ([.int .i64 x.t] ++ (x.cm.cells ++ (x.st.cells ++ (x.ce.cells ++ (x.ak.cells ++ ([.int .i64 x.e] ++ ([.int .i64 x.r] ++ ([.int .u64 (x.tm : Int)])))))))))) (x.po.cells ++ (x.vt.cells ++ ([.int .i64 x.i] ++ (x.en.cells ++ (x.op.cells ++ (x.dn.cells ++ ([.string ⟨x.rp.toArray⟩] ++ (x.de.cells)))))))) 157 (by simp only [List.length_append, List.length_cons, List.length_nil, Wcm.len hx.cm, Wst.len hx.st, Wce.len hx.ce, Wst.len hx.ak]) (by rw [hv, Wpr.len x.pr]) _ _ (by simp only [Wmg.cells, List.append_assoc, List.append_nil]) (by simp only [Wmg.cells, List.append_assoc, List.append_nil]) hb
set_option maxHeartbeats 2000000 in
theorem mget_pr (x : Wmg) (hz : x.Len) (hq : x.q = 6) (w : World) (F : List Nat) (g gm : Nat) (s : Ps) (hr : Rs w F g s) (hb : Blk w gm 61 x.cells.toArray) (hgm : gm ≠ g) (hF : ¬ gm ∈ F) :
    Calls Tryz.prog 58 #[.pointer (some ⟨g, 0, none⟩), .pointer (some ⟨gm, 0, none⟩)] w fun e w' => ∃ v : Wpr, e = .returned (.bool true) ∧ v.con = (pPr s).1 ∧ (∀ S0 : List Nat, (∀ q ∈ S0, q < w.heap.size) → v.Li w' S0) ∧ Blk w' gm 61 ({x with pr := v} : Wmg).cells.toArray ∧ Rs w' F g (pPr s).2 ∧ Fr [g, gm] w w' := by
  have hq0 : w.cell? ⟨gm, 0, none⟩ = some (.int .i64 6) := by have h := hb.range (cs := x.cells) 0 (.int .i64 x.q) rfl; rw [hq] at h; exact h
  have HR := Lib.hid hr
  have HB := Lib.hid hb
  have HGM := Lib.hid hgm
  have HNF := Lib.hid hF
  have HZ := Lib.hid hz
  have HBS : Hid (x.cells.toArray.size = 295) := Lib.hid (by rw [List.size_toArray]; exact Wmg.lenz hz)
  clear hr hb hgm hF hq hz
  go_enter Tryz.func58, Tryz.ntmps58
  go_wp2_with fail
  refine (getPromise_any w F g s HR.out).mono ?_
  rintro e w1 ⟨v, rfl, hcv, hok, h1, h2⟩
  have HB1 := Lib.hid (HB.out.keep h2 (by have := HGM.out; simpa using this))
  have HCV := Lib.hid hcv
  have HOK := Lib.hid hok
  have HR1 := Lib.hid h1
  have HF1 := Lib.hid h2
  have HVL : Hid (v.cells.length = 6) := Lib.hid (by have hok_ := hok [] (by simp); exact Wpr.len v)
  have HONE : Hid (v.cells.toArray.all (·.oneCell') = true) := Lib.hid (all_oneCell_toArray (Wpr.one v))
  have HB2 := Lib.hid (Wmg.blk_pr HZ.out v HVL.out HB1.out)
  have HTH : Hid (w1.there gm 157 v.cells.toArray.size) := Lib.hid (HB1.out.thereM _ _ (by rw [List.size_toArray, HVL.out, HBS.out]; omega))
  have HSZ : Hid ((Tryz.prog.info? 40).map (·.size) = some v.cells.toArray.size) := Lib.hid (by rw [List.size_toArray, HVL.out]; kernel_rfl)
  have HF2 : Hid (Fr [gm] w1 (w1.setCells gm 157 v.cells)) := Lib.hid (Fr.setCells (fun _ => by simp) v.cells 157 w1 (Fr.refl _ _))
  clear hcv hok h1 h2
  obtain ⟨V, hV⟩ : ∃ V : List Value, V = v.cells := ⟨_, rfl⟩
  rw [← hV] at HVL HONE HTH HSZ HF2 HB2 ⊢
  have HVV := Lib.hid hV
  clear hV
  go_wp2_with (refine wpList_store_mid rfl 40 _ _ rfl gm 157 V.toArray rfl rfl HTH.out HSZ.out HONE.out ?_)
  change bodyPost _ _ _ _ _ (w1.setCells gm 157 V)
  generalize w1.setCells gm 157 V = w2 at *
  go_ret
  exact ⟨v, rfl, HCV.out, fun S0 h0 => (HOK.out (gm :: S0) (fun q hq => by rcases List.mem_cons.1 hq with rfl | hq; exact HB.out.lt; exact h0 q hq)).keep (HF2.out.mono (fun q hq _ => by simp at hq; simp [hq])) (fun q hq _ => by simp [hq]), HB2.out, HR1.out.fr HF2.out (by have := HGM.out; simp; exact fun h => this h.symm) (fun q hq hm => HNF.out (by simp at hm; exact hm ▸ hq)), (HF1.out.mono (fun q hq _ => by simp at hq; simp [hq])).trans HF2.out (fun q hq _ => by simp at hq; simp [hq])⟩
theorem Wmg.blk_po {w : World} {g : Nat} {t : TypeId} {x : Wmg} (hx : x.Len) (v : Wpo) (hv : v.cells.length = 11) (hb : Blk w g t x.cells.toArray) : Blk (w.setCells g 163 v.cells) g t ({x with po := v} : Wmg).cells.toArray :=
  Blk.mid_at v.cells x.po.cells ([.int .i64 x.q] ++ ([.int .i64 x.f] ++ ([.int .i64 x.t] ++ (x.cm.cells ++ (x.st.cells ++ (x.ce.cells ++ (x.ak.cells ++ ([.int .i64 x.e] ++ ([.int .i64 x.r] ++ ([.int .u64 (x.tm : Int)] ++ (x.pr.cells))))))))))) (x.vt.cells ++ ([.int .i64 x.i] ++ (x.en.cells ++ (x.op.cells ++ (x.dn.cells ++ ([.string ⟨x.rp.toArray⟩] ++ (x.de.cells))))))) 163 (by simp only [List.length_append, List.length_cons, List.length_nil, Wcm.len hx.cm, Wst.len hx.st, Wce.len hx.ce, Wst.len hx.ak, Wpr.len x.pr]) (by rw [hv, Wpo.len x.po]) _ _ (by simp only [Wmg.cells, List.append_assoc, List.append_nil]) (by simp only [Wmg.cells, List.append_assoc, List.append_nil]) hb
set_option maxHeartbeats 2000000 in
theorem mget_po (x : Wmg) (hz : x.Len) (hq : x.q = 7) (w : World) (F : List Nat) (g gm : Nat) (s : Ps) (hr : Rs w F g s) (hb : Blk w gm 61 x.cells.toArray) (hgm : gm ≠ g) (hF : ¬ gm ∈ F) :
    Calls Tryz.prog 58 #[.pointer (some ⟨g, 0, none⟩), .pointer (some ⟨gm, 0, none⟩)] w fun e w' => ∃ v : Wpo, e = .returned (.bool true) ∧ v.con = (pPo s).1 ∧ (∀ S0 : List Nat, (∀ q ∈ S0, q < w.heap.size) → v.Li w' S0) ∧ Blk w' gm 61 ({x with po := v} : Wmg).cells.toArray ∧ Rs w' F g (pPo s).2 ∧ Fr [g, gm] w w' := by
  have hq0 : w.cell? ⟨gm, 0, none⟩ = some (.int .i64 7) := by have h := hb.range (cs := x.cells) 0 (.int .i64 x.q) rfl; rw [hq] at h; exact h
  have HR := Lib.hid hr
  have HB := Lib.hid hb
  have HGM := Lib.hid hgm
  have HNF := Lib.hid hF
  have HZ := Lib.hid hz
  have HBS : Hid (x.cells.toArray.size = 295) := Lib.hid (by rw [List.size_toArray]; exact Wmg.lenz hz)
  clear hr hb hgm hF hq hz
  go_enter Tryz.func58, Tryz.ntmps58
  go_wp2_with fail
  refine (getProposal_any w F g s HR.out).mono ?_
  rintro e w1 ⟨v, rfl, hcv, hok, h1, h2⟩
  have HB1 := Lib.hid (HB.out.keep h2 (by have := HGM.out; simpa using this))
  have HCV := Lib.hid hcv
  have HOK := Lib.hid hok
  have HR1 := Lib.hid h1
  have HF1 := Lib.hid h2
  have HVL : Hid (v.cells.length = 11) := Lib.hid (by have hok_ := hok [] (by simp); exact Wpo.len v)
  have HONE : Hid (v.cells.toArray.all (·.oneCell') = true) := Lib.hid (all_oneCell_toArray (Wpo.one v))
  have HB2 := Lib.hid (Wmg.blk_po HZ.out v HVL.out HB1.out)
  have HTH : Hid (w1.there gm 163 v.cells.toArray.size) := Lib.hid (HB1.out.thereM _ _ (by rw [List.size_toArray, HVL.out, HBS.out]; omega))
  have HSZ : Hid ((Tryz.prog.info? 47).map (·.size) = some v.cells.toArray.size) := Lib.hid (by rw [List.size_toArray, HVL.out]; kernel_rfl)
  have HF2 : Hid (Fr [gm] w1 (w1.setCells gm 163 v.cells)) := Lib.hid (Fr.setCells (fun _ => by simp) v.cells 163 w1 (Fr.refl _ _))
  clear hcv hok h1 h2
  obtain ⟨V, hV⟩ : ∃ V : List Value, V = v.cells := ⟨_, rfl⟩
  rw [← hV] at HVL HONE HTH HSZ HF2 HB2 ⊢
  have HVV := Lib.hid hV
  clear hV
  go_wp2_with (refine wpList_store_mid rfl 47 _ _ rfl gm 163 V.toArray rfl rfl HTH.out HSZ.out HONE.out ?_)
  change bodyPost _ _ _ _ _ (w1.setCells gm 163 V)
  generalize w1.setCells gm 163 V = w2 at *
  go_ret
  exact ⟨v, rfl, HCV.out, fun S0 h0 => (HOK.out (gm :: S0) (fun q hq => by rcases List.mem_cons.1 hq with rfl | hq; exact HB.out.lt; exact h0 q hq)).keep (HF2.out.mono (fun q hq _ => by simp at hq; simp [hq])) (fun q hq _ => by simp [hq]), HB2.out, HR1.out.fr HF2.out (by have := HGM.out; simp; exact fun h => this h.symm) (fun q hq hm => HNF.out (by simp at hm; exact hm ▸ hq)), (HF1.out.mono (fun q hq _ => by simp at hq; simp [hq])).trans HF2.out (fun q hq _ => by simp at hq; simp [hq])⟩
theorem Wmg.blk_vt {w : World} {g : Nat} {t : TypeId} {x : Wmg} (hx : x.Len) (v : Wvt) (hv : v.cells.length = 38) (hb : Blk w g t x.cells.toArray) : Blk (w.setCells g 174 v.cells) g t ({x with vt := v} : Wmg).cells.toArray :=
  Blk.mid_at v.cells x.vt.cells ([.int .i64 x.q] ++ ([.int .i64 x.f] ++ ([.int .i64 x.t] ++ (x.cm.cells ++ (x.st.cells ++ (x.ce.cells ++ (x.ak.cells ++ ([.int .i64 x.e] ++ ([.int .i64 x.r] ++ ([.int .u64 (x.tm : Int)] ++ (x.pr.cells ++ (x.po.cells)))))))))))) ([.int .i64 x.i] ++ (x.en.cells ++ (x.op.cells ++ (x.dn.cells ++ ([.string ⟨x.rp.toArray⟩] ++ (x.de.cells)))))) 174 (by simp only [List.length_append, List.length_cons, List.length_nil, Wcm.len hx.cm, Wst.len hx.st, Wce.len hx.ce, Wst.len hx.ak, Wpr.len x.pr, Wpo.len x.po]) (by rw [hv, Wvt.len hx.vt]) _ _ (by simp only [Wmg.cells, List.append_assoc, List.append_nil]) (by simp only [Wmg.cells, List.append_assoc, List.append_nil]) hb
set_option maxHeartbeats 2000000 in
theorem mget_vt (x : Wmg) (hz : x.Len) (hq : x.q = 8) (w : World) (F : List Nat) (g gm : Nat) (s : Ps) (hr : Rs w F g s) (hb : Blk w gm 61 x.cells.toArray) (hgm : gm ≠ g) (hF : ¬ gm ∈ F) :
    Calls Tryz.prog 58 #[.pointer (some ⟨g, 0, none⟩), .pointer (some ⟨gm, 0, none⟩)] w fun e w' => ∃ v : Wvt, e = .returned (.bool true) ∧ v = (pVt s).1 ∧ (∀ S0 : List Nat, (∀ q ∈ S0, q < w.heap.size) → v.Ok) ∧ Blk w' gm 61 ({x with vt := v} : Wmg).cells.toArray ∧ Rs w' F g (pVt s).2 ∧ Fr [g, gm] w w' := by
  have hq0 : w.cell? ⟨gm, 0, none⟩ = some (.int .i64 8) := by have h := hb.range (cs := x.cells) 0 (.int .i64 x.q) rfl; rw [hq] at h; exact h
  have HR := Lib.hid hr
  have HB := Lib.hid hb
  have HGM := Lib.hid hgm
  have HNF := Lib.hid hF
  have HZ := Lib.hid hz
  have HBS : Hid (x.cells.toArray.size = 295) := Lib.hid (by rw [List.size_toArray]; exact Wmg.lenz hz)
  clear hr hb hgm hF hq hz
  go_enter Tryz.func58, Tryz.ntmps58
  go_wp2_with fail
  refine ((gets_of (fun _ _ _ _ hr => getVote_any hr) pVt_ok) w F g s HR.out).mono ?_
  rintro e w1 ⟨v, rfl, hcv, hok, h1, h2⟩
  have HB1 := Lib.hid (HB.out.keep h2 (by have := HGM.out; simpa using this))
  have HCV := Lib.hid hcv
  have HOK := Lib.hid hok
  have HR1 := Lib.hid h1
  have HF1 := Lib.hid h2
  have HVL : Hid (v.cells.length = 38) := Lib.hid (by have hok_ := hok [] (by simp); exact Wvt.len (hok_.h))
  have HONE : Hid (v.cells.toArray.all (·.oneCell') = true) := Lib.hid (all_oneCell_toArray (Wvt.one v))
  have HB2 := Lib.hid (Wmg.blk_vt HZ.out v HVL.out HB1.out)
  have HTH : Hid (w1.there gm 174 v.cells.toArray.size) := Lib.hid (HB1.out.thereM _ _ (by rw [List.size_toArray, HVL.out, HBS.out]; omega))
  have HSZ : Hid ((Tryz.prog.info? 49).map (·.size) = some v.cells.toArray.size) := Lib.hid (by rw [List.size_toArray, HVL.out]; kernel_rfl)
  have HF2 : Hid (Fr [gm] w1 (w1.setCells gm 174 v.cells)) := Lib.hid (Fr.setCells (fun _ => by simp) v.cells 174 w1 (Fr.refl _ _))
  clear hcv hok h1 h2
  obtain ⟨V, hV⟩ : ∃ V : List Value, V = v.cells := ⟨_, rfl⟩
  rw [← hV] at HVL HONE HTH HSZ HF2 HB2 ⊢
  have HVV := Lib.hid hV
  clear hV
  go_wp2_with (refine wpList_store_mid rfl 49 _ _ rfl gm 174 V.toArray rfl rfl HTH.out HSZ.out HONE.out ?_)
  change bodyPost _ _ _ _ _ (w1.setCells gm 174 V)
  generalize w1.setCells gm 174 V = w2 at *
  go_ret
  exact ⟨v, rfl, HCV.out, fun S0 h0 => HOK.out S0 h0, HB2.out, HR1.out.fr HF2.out (by have := HGM.out; simp; exact fun h => this h.symm) (fun q hq hm => HNF.out (by simp at hm; exact hm ▸ hq)), (HF1.out.mono (fun q hq _ => by simp at hq; simp [hq])).trans HF2.out (fun q hq _ => by simp at hq; simp [hq])⟩
theorem Wmg.blk_op {w : World} {g : Nat} {t : TypeId} {x : Wmg} (hx : x.Len) (v : Wop) (hv : v.cells.length = 34) (hb : Blk w g t x.cells.toArray) : Blk (w.setCells g 248 v.cells) g t ({x with op := v} : Wmg).cells.toArray :=
  Blk.mid_at v.cells x.op.cells ([.int .i64 x.q] ++ ([.int .i64 x.f] ++ ([.int .i64 x.t] ++ (x.cm.cells ++ (x.st.cells ++ (x.ce.cells ++ (x.ak.cells ++ ([.int .i64 x.e] ++ ([.int .i64 x.r] ++ ([.int .u64 (x.tm : Int)] ++ (x.pr.cells ++ (x.po.cells ++ (x.vt.cells ++ ([.int .i64 x.i] ++ (x.en.cells))))))))))))))) (x.dn.cells ++ ([.string ⟨x.rp.toArray⟩] ++ (x.de.cells))) 248 (by simp only [List.length_append, List.length_cons, List.length_nil, Wcm.len hx.cm, Wst.len hx.st, Wce.len hx.ce, Wst.len hx.ak, Wpr.len x.pr, Wpo.len x.po, Wvt.len hx.vt, Wen.len hx.en]) (by rw [hv, Wop.len hx.op]) _ _ (by simp only [Wmg.cells, List.append_assoc, List.append_nil]) (by simp only [Wmg.cells, List.append_assoc, List.append_nil]) hb
set_option maxHeartbeats 2000000 in
theorem mget_op (x : Wmg) (hz : x.Len) (hq : x.q = 10) (w : World) (F : List Nat) (g gm : Nat) (s : Ps) (hr : Rs w F g s) (hb : Blk w gm 61 x.cells.toArray) (hgm : gm ≠ g) (hF : ¬ gm ∈ F) :
    Calls Tryz.prog 58 #[.pointer (some ⟨g, 0, none⟩), .pointer (some ⟨gm, 0, none⟩)] w fun e w' => ∃ v : Wop, e = .returned (.bool true) ∧ v.con = (pOp s).1 ∧ (∀ S0 : List Nat, (∀ q ∈ S0, q < w.heap.size) → v.Ok w' S0) ∧ Blk w' gm 61 ({x with op := v} : Wmg).cells.toArray ∧ Rs w' F g (pOp s).2 ∧ Fr [g, gm] w w' := by
  have hq0 : w.cell? ⟨gm, 0, none⟩ = some (.int .i64 10) := by have h := hb.range (cs := x.cells) 0 (.int .i64 x.q) rfl; rw [hq] at h; exact h
  have HR := Lib.hid hr
  have HB := Lib.hid hb
  have HGM := Lib.hid hgm
  have HNF := Lib.hid hF
  have HZ := Lib.hid hz
  have HBS : Hid (x.cells.toArray.size = 295) := Lib.hid (by rw [List.size_toArray]; exact Wmg.lenz hz)
  clear hr hb hgm hF hq hz
  go_enter Tryz.func58, Tryz.ntmps58
  go_wp2_with fail
  refine (getOpening_any w F g s HR.out).mono ?_
  rintro e w1 ⟨v, rfl, hcv, hok, h1, h2⟩
  have HB1 := Lib.hid (HB.out.keep h2 (by have := HGM.out; simpa using this))
  have HCV := Lib.hid hcv
  have HOK := Lib.hid hok
  have HR1 := Lib.hid h1
  have HF1 := Lib.hid h2
  have HVL : Hid (v.cells.length = 34) := Lib.hid (by have hok_ := hok [] (by simp); exact Wop.len (hok_.h))
  have HONE : Hid (v.cells.toArray.all (·.oneCell') = true) := Lib.hid (all_oneCell_toArray (Wop.one v))
  have HB2 := Lib.hid (Wmg.blk_op HZ.out v HVL.out HB1.out)
  have HTH : Hid (w1.there gm 248 v.cells.toArray.size) := Lib.hid (HB1.out.thereM _ _ (by rw [List.size_toArray, HVL.out, HBS.out]; omega))
  have HSZ : Hid ((Tryz.prog.info? 54).map (·.size) = some v.cells.toArray.size) := Lib.hid (by rw [List.size_toArray, HVL.out]; kernel_rfl)
  have HF2 : Hid (Fr [gm] w1 (w1.setCells gm 248 v.cells)) := Lib.hid (Fr.setCells (fun _ => by simp) v.cells 248 w1 (Fr.refl _ _))
  clear hcv hok h1 h2
  obtain ⟨V, hV⟩ : ∃ V : List Value, V = v.cells := ⟨_, rfl⟩
  rw [← hV] at HVL HONE HTH HSZ HF2 HB2 ⊢
  have HVV := Lib.hid hV
  clear hV
  go_wp2_with (refine wpList_store_mid rfl 54 _ _ rfl gm 248 V.toArray rfl rfl HTH.out HSZ.out HONE.out ?_)
  change bodyPost _ _ _ _ _ (w1.setCells gm 248 V)
  generalize w1.setCells gm 248 V = w2 at *
  go_ret
  exact ⟨v, rfl, HCV.out, fun S0 h0 => (HOK.out (gm :: S0) (fun q hq => by rcases List.mem_cons.1 hq with rfl | hq; exact HB.out.lt; exact h0 q hq)).keep (HF2.out.mono (fun q hq _ => by simp at hq; simp [hq])) (fun q hq _ => by simp [hq]), HB2.out, HR1.out.fr HF2.out (by have := HGM.out; simp; exact fun h => this h.symm) (fun q hq hm => HNF.out (by simp at hm; exact hm ▸ hq)), (HF1.out.mono (fun q hq _ => by simp at hq; simp [hq])).trans HF2.out (fun q hq _ => by simp at hq; simp [hq])⟩
theorem Wmg.blk_dn {w : World} {g : Nat} {t : TypeId} {x : Wmg} (hx : x.Len) (v : Wdn) (hv : v.cells.length = 4) (hb : Blk w g t x.cells.toArray) : Blk (w.setCells g 282 v.cells) g t ({x with dn := v} : Wmg).cells.toArray :=
  Blk.mid_at v.cells x.dn.cells ([.int .i64 x.q] ++ ([.int .i64 x.f] ++ ([.int .i64 x.t] ++ (x.cm.cells ++ (x.st.cells ++ (x.ce.cells ++ (x.ak.cells ++ ([.int .i64 x.e] ++ ([.int .i64 x.r] ++ ([.int .u64 (x.tm : Int)] ++ (x.pr.cells ++ (x.po.cells ++ (x.vt.cells ++ ([.int .i64 x.i] ++ (x.en.cells ++ (x.op.cells)))))))))))))))) ([.string ⟨x.rp.toArray⟩] ++ (x.de.cells)) 282 (by simp only [List.length_append, List.length_cons, List.length_nil, Wcm.len hx.cm, Wst.len hx.st, Wce.len hx.ce, Wst.len hx.ak, Wpr.len x.pr, Wpo.len x.po, Wvt.len hx.vt, Wen.len hx.en, Wop.len hx.op]) (by rw [hv, Wdn.len x.dn]) _ _ (by simp only [Wmg.cells, List.append_assoc, List.append_nil]) (by simp only [Wmg.cells, List.append_assoc, List.append_nil]) hb
set_option maxHeartbeats 2000000 in
theorem mget_dn (x : Wmg) (hz : x.Len) (hq : x.q = 12) (w : World) (F : List Nat) (g gm : Nat) (s : Ps) (hr : Rs w F g s) (hb : Blk w gm 61 x.cells.toArray) (hgm : gm ≠ g) (hF : ¬ gm ∈ F) :
    Calls Tryz.prog 58 #[.pointer (some ⟨g, 0, none⟩), .pointer (some ⟨gm, 0, none⟩)] w fun e w' => ∃ v : Wdn, e = .returned (.bool true) ∧ v = (pDn s).1 ∧ (∀ S0 : List Nat, (∀ q ∈ S0, q < w.heap.size) → v.Ok) ∧ Blk w' gm 61 ({x with dn := v} : Wmg).cells.toArray ∧ Rs w' F g (pDn s).2 ∧ Fr [g, gm] w w' := by
  have hq0 : w.cell? ⟨gm, 0, none⟩ = some (.int .i64 12) := by have h := hb.range (cs := x.cells) 0 (.int .i64 x.q) rfl; rw [hq] at h; exact h
  have HR := Lib.hid hr
  have HB := Lib.hid hb
  have HGM := Lib.hid hgm
  have HNF := Lib.hid hF
  have HZ := Lib.hid hz
  have HBS : Hid (x.cells.toArray.size = 295) := Lib.hid (by rw [List.size_toArray]; exact Wmg.lenz hz)
  clear hr hb hgm hF hq hz
  go_enter Tryz.func58, Tryz.ntmps58
  go_wp2_with fail
  refine ((gets_of (fun _ _ _ _ hr => getDeny_any hr) pDn_ok) w F g s HR.out).mono ?_
  rintro e w1 ⟨v, rfl, hcv, hok, h1, h2⟩
  have HB1 := Lib.hid (HB.out.keep h2 (by have := HGM.out; simpa using this))
  have HCV := Lib.hid hcv
  have HOK := Lib.hid hok
  have HR1 := Lib.hid h1
  have HF1 := Lib.hid h2
  have HVL : Hid (v.cells.length = 4) := Lib.hid (by have hok_ := hok [] (by simp); exact Wdn.len v)
  have HONE : Hid (v.cells.toArray.all (·.oneCell') = true) := Lib.hid (all_oneCell_toArray (Wdn.one v))
  have HB2 := Lib.hid (Wmg.blk_dn HZ.out v HVL.out HB1.out)
  have HTH : Hid (w1.there gm 282 v.cells.toArray.size) := Lib.hid (HB1.out.thereM _ _ (by rw [List.size_toArray, HVL.out, HBS.out]; omega))
  have HSZ : Hid ((Tryz.prog.info? 56).map (·.size) = some v.cells.toArray.size) := Lib.hid (by rw [List.size_toArray, HVL.out]; kernel_rfl)
  have HF2 : Hid (Fr [gm] w1 (w1.setCells gm 282 v.cells)) := Lib.hid (Fr.setCells (fun _ => by simp) v.cells 282 w1 (Fr.refl _ _))
  clear hcv hok h1 h2
  obtain ⟨V, hV⟩ : ∃ V : List Value, V = v.cells := ⟨_, rfl⟩
  rw [← hV] at HVL HONE HTH HSZ HF2 HB2 ⊢
  have HVV := Lib.hid hV
  clear hV
  go_wp2_with (refine wpList_store_mid rfl 56 _ _ rfl gm 282 V.toArray rfl rfl HTH.out HSZ.out HONE.out ?_)
  change bodyPost _ _ _ _ _ (w1.setCells gm 282 V)
  generalize w1.setCells gm 282 V = w2 at *
  go_ret
  exact ⟨v, rfl, HCV.out, fun S0 h0 => HOK.out S0 h0, HB2.out, HR1.out.fr HF2.out (by have := HGM.out; simp; exact fun h => this h.symm) (fun q hq hm => HNF.out (by simp at hm; exact hm ▸ hq)), (HF1.out.mono (fun q hq _ => by simp at hq; simp [hq])).trans HF2.out (fun q hq _ => by simp at hq; simp [hq])⟩
theorem Wmg.blk_de {w : World} {g : Nat} {t : TypeId} {x : Wmg} (hx : x.Len) (v : Wdc) (hv : v.cells.length = 8) (hb : Blk w g t x.cells.toArray) : Blk (w.setCells g 287 v.cells) g t ({x with de := v} : Wmg).cells.toArray :=
  Blk.mid_at v.cells x.de.cells ([.int .i64 x.q] ++ ([.int .i64 x.f] ++ ([.int .i64 x.t] ++ (x.cm.cells ++ (x.st.cells ++ (x.ce.cells ++ (x.ak.cells ++ ([.int .i64 x.e] ++ ([.int .i64 x.r] ++ ([.int .u64 (x.tm : Int)] ++ (x.pr.cells ++ (x.po.cells ++ (x.vt.cells ++ ([.int .i64 x.i] ++ (x.en.cells ++ (x.op.cells ++ (x.dn.cells ++ ([.string ⟨x.rp.toArray⟩])))))))))))))))))) ([]) 287 (by simp only [List.length_append, List.length_cons, List.length_nil, Wcm.len hx.cm, Wst.len hx.st, Wce.len hx.ce, Wst.len hx.ak, Wpr.len x.pr, Wpo.len x.po, Wvt.len hx.vt, Wen.len hx.en, Wop.len hx.op, Wdn.len x.dn]) (by rw [hv, Wdc.len x.de]) _ _ (by simp only [Wmg.cells, List.append_assoc, List.append_nil]) (by simp only [Wmg.cells, List.append_assoc, List.append_nil]) hb
set_option maxHeartbeats 2000000 in
theorem mget_de (x : Wmg) (hz : x.Len) (hq : x.q = 14) (w : World) (F : List Nat) (g gm : Nat) (s : Ps) (hr : Rs w F g s) (hb : Blk w gm 61 x.cells.toArray) (hgm : gm ≠ g) (hF : ¬ gm ∈ F) :
    Calls Tryz.prog 58 #[.pointer (some ⟨g, 0, none⟩), .pointer (some ⟨gm, 0, none⟩)] w fun e w' => ∃ v : Wdc, e = .returned (.bool true) ∧ v.con = (pDc s).1 ∧ (∀ S0 : List Nat, (∀ q ∈ S0, q < w.heap.size) → v.Li w' S0) ∧ Blk w' gm 61 ({x with de := v} : Wmg).cells.toArray ∧ Rs w' F g (pDc s).2 ∧ Fr [g, gm] w w' := by
  have hq0 : w.cell? ⟨gm, 0, none⟩ = some (.int .i64 14) := by have h := hb.range (cs := x.cells) 0 (.int .i64 x.q) rfl; rw [hq] at h; exact h
  have HR := Lib.hid hr
  have HB := Lib.hid hb
  have HGM := Lib.hid hgm
  have HNF := Lib.hid hF
  have HZ := Lib.hid hz
  have HBS : Hid (x.cells.toArray.size = 295) := Lib.hid (by rw [List.size_toArray]; exact Wmg.lenz hz)
  clear hr hb hgm hF hq hz
  go_enter Tryz.func58, Tryz.ntmps58
  go_wp2_with fail
  refine (getDecided_any w F g s HR.out).mono ?_
  rintro e w1 ⟨v, rfl, hcv, hok, h1, h2⟩
  have HB1 := Lib.hid (HB.out.keep h2 (by have := HGM.out; simpa using this))
  have HCV := Lib.hid hcv
  have HOK := Lib.hid hok
  have HR1 := Lib.hid h1
  have HF1 := Lib.hid h2
  have HVL : Hid (v.cells.length = 8) := Lib.hid (by have hok_ := hok [] (by simp); exact Wdc.len v)
  have HONE : Hid (v.cells.toArray.all (·.oneCell') = true) := Lib.hid (all_oneCell_toArray (Wdc.one v))
  have HB2 := Lib.hid (Wmg.blk_de HZ.out v HVL.out HB1.out)
  have HTH : Hid (w1.there gm 287 v.cells.toArray.size) := Lib.hid (HB1.out.thereM _ _ (by rw [List.size_toArray, HVL.out, HBS.out]; omega))
  have HSZ : Hid ((Tryz.prog.info? 59).map (·.size) = some v.cells.toArray.size) := Lib.hid (by rw [List.size_toArray, HVL.out]; kernel_rfl)
  have HF2 : Hid (Fr [gm] w1 (w1.setCells gm 287 v.cells)) := Lib.hid (Fr.setCells (fun _ => by simp) v.cells 287 w1 (Fr.refl _ _))
  clear hcv hok h1 h2
  obtain ⟨V, hV⟩ : ∃ V : List Value, V = v.cells := ⟨_, rfl⟩
  rw [← hV] at HVL HONE HTH HSZ HF2 HB2 ⊢
  have HVV := Lib.hid hV
  clear hV
  go_wp2_with (refine wpList_store_mid rfl 59 _ _ rfl gm 287 V.toArray rfl rfl HTH.out HSZ.out HONE.out ?_)
  change bodyPost _ _ _ _ _ (w1.setCells gm 287 V)
  generalize w1.setCells gm 287 V = w2 at *
  go_ret
  exact ⟨v, rfl, HCV.out, fun S0 h0 => (HOK.out (gm :: S0) (fun q hq => by rcases List.mem_cons.1 hq with rfl | hq; exact HB.out.lt; exact h0 q hq)).keep (HF2.out.mono (fun q hq _ => by simp at hq; simp [hq])) (fun q hq _ => by simp [hq]), HB2.out, HR1.out.fr HF2.out (by have := HGM.out; simp; exact fun h => this h.symm) (fun q hq hm => HNF.out (by simp at hm; exact hm ▸ hq)), (HF1.out.mono (fun q hq _ => by simp at hq; simp [hq])).trans HF2.out (fun q hq _ => by simp at hq; simp [hq])⟩
end Go.Proofs.YtnpjihdhpoddgaaGreat

namespace Go.Proofs.YtnpjihdhpoddgaaGreat
open Go.RowKit
set_option maxRecDepth 100000
theorem wpList_store_at {P : Program} {ops : Array Oper} {rest : List Oper} {op : Oper} {a : Act} {w : World} {Q : Exit → Act → World → Prop} (hg : op.guard = none) (ty : TypeId) (x y : Operand) (ho : op.op = .store ty x y)
    (g i : Nat) (v : Value) (hx : a.eval x = .pointer (some ⟨g, i, none⟩)) (hy : a.eval y = v) (h1 : v.oneCell' = true) (t : TypeId) (cs : Array Value) (hb : Blk w g t cs) (hi : i < cs.size) (hsz : (P.info? ty).map (·.size) = some 1)
    (h : wpList P ops Q rest (a.put op.dst undef) (w.setCells g i [v])) : wpList P ops Q (op :: rest) a w :=
  wpList_plain hg fun _ hK => wp_store_at ty x y ho g i v hx hy h1 t cs hb hi hsz (hK _ _ h)
theorem Wmg.blk_i {w : World} {g : Nat} {t : TypeId} {x : Wmg} (hx : x.Len) (v : Int) (hb : Blk w g t x.cells.toArray) : Blk (w.setCells g 212 [.int .i64 v]) g t ({x with i := v} : Wmg).cells.toArray :=
  Blk.mid_at [.int .i64 v] [.int .i64 x.i] ([.int .i64 x.q] ++ ([.int .i64 x.f] ++ ([.int .i64 x.t] ++ (x.cm.cells ++ (x.st.cells ++ (x.ce.cells ++ (x.ak.cells ++ ([.int .i64 x.e] ++ ([.int .i64 x.r] ++ ([.int .u64 (x.tm : Int)] ++ (x.pr.cells ++ (x.po.cells ++ (x.vt.cells))))))))))))) (x.en.cells ++ (x.op.cells ++ (x.dn.cells ++ ([.string ⟨x.rp.toArray⟩] ++ (x.de.cells))))) 212 (by simp only [List.length_append, List.length_cons, List.length_nil, Wcm.len hx.cm, Wst.len hx.st, Wce.len hx.ce, Wst.len hx.ak, Wpr.len x.pr, Wpo.len x.po, Wvt.len hx.vt]) rfl _ _ (by simp only [Wmg.cells, List.append_assoc, List.append_nil]) (by simp only [Wmg.cells, List.append_assoc, List.append_nil]) hb
theorem Wmg.blk_e {w : World} {g : Nat} {t : TypeId} {x : Wmg} (hx : x.Len) (v : Int) (hb : Blk w g t x.cells.toArray) : Blk (w.setCells g 154 [.int .i64 v]) g t ({x with e := v} : Wmg).cells.toArray :=
  Blk.mid_at [.int .i64 v] [.int .i64 x.e] ([.int .i64 x.q] ++ ([.int .i64 x.f] ++ ([.int .i64 x.t] ++ (x.cm.cells ++ (x.st.cells ++ (x.ce.cells ++ (x.ak.cells))))))) ([.int .i64 x.r] ++ ([.int .u64 (x.tm : Int)] ++ (x.pr.cells ++ (x.po.cells ++ (x.vt.cells ++ ([.int .i64 x.i] ++ (x.en.cells ++ (x.op.cells ++ (x.dn.cells ++ ([.string ⟨x.rp.toArray⟩] ++ (x.de.cells))))))))))) 154 (by simp only [List.length_append, List.length_cons, List.length_nil, Wcm.len hx.cm, Wst.len hx.st, Wce.len hx.ce, Wst.len hx.ak]) rfl _ _ (by simp only [Wmg.cells, List.append_assoc, List.append_nil]) (by simp only [Wmg.cells, List.append_assoc, List.append_nil]) hb
theorem Wmg.blk_r {w : World} {g : Nat} {t : TypeId} {x : Wmg} (hx : x.Len) (v : Int) (hb : Blk w g t x.cells.toArray) : Blk (w.setCells g 155 [.int .i64 v]) g t ({x with r := v} : Wmg).cells.toArray :=
  Blk.mid_at [.int .i64 v] [.int .i64 x.r] ([.int .i64 x.q] ++ ([.int .i64 x.f] ++ ([.int .i64 x.t] ++ (x.cm.cells ++ (x.st.cells ++ (x.ce.cells ++ (x.ak.cells ++ ([.int .i64 x.e])))))))) ([.int .u64 (x.tm : Int)] ++ (x.pr.cells ++ (x.po.cells ++ (x.vt.cells ++ ([.int .i64 x.i] ++ (x.en.cells ++ (x.op.cells ++ (x.dn.cells ++ ([.string ⟨x.rp.toArray⟩] ++ (x.de.cells)))))))))) 155 (by simp only [List.length_append, List.length_cons, List.length_nil, Wcm.len hx.cm, Wst.len hx.st, Wce.len hx.ce, Wst.len hx.ak]) rfl _ _ (by simp only [Wmg.cells, List.append_assoc, List.append_nil]) (by simp only [Wmg.cells, List.append_assoc, List.append_nil]) hb
theorem Wmg.blk_tm {w : World} {g : Nat} {t : TypeId} {x : Wmg} (hx : x.Len) (v : Nat) (hb : Blk w g t x.cells.toArray) : Blk (w.setCells g 156 [.int .u64 (v : Int)]) g t ({x with tm := v} : Wmg).cells.toArray :=
  Blk.mid_at [.int .u64 (v : Int)] [.int .u64 (x.tm : Int)] ([.int .i64 x.q] ++ ([.int .i64 x.f] ++ ([.int .i64 x.t] ++ (x.cm.cells ++ (x.st.cells ++ (x.ce.cells ++ (x.ak.cells ++ ([.int .i64 x.e] ++ ([.int .i64 x.r]))))))))) (x.pr.cells ++ (x.po.cells ++ (x.vt.cells ++ ([.int .i64 x.i] ++ (x.en.cells ++ (x.op.cells ++ (x.dn.cells ++ ([.string ⟨x.rp.toArray⟩] ++ (x.de.cells))))))))) 156 (by simp only [List.length_append, List.length_cons, List.length_nil, Wcm.len hx.cm, Wst.len hx.st, Wce.len hx.ce, Wst.len hx.ak]) rfl _ _ (by simp only [Wmg.cells, List.append_assoc, List.append_nil]) (by simp only [Wmg.cells, List.append_assoc, List.append_nil]) hb
theorem Wmg.blk_rp {w : World} {g : Nat} {t : TypeId} {x : Wmg} (hx : x.Len) (v : List UInt8) (hb : Blk w g t x.cells.toArray) : Blk (w.setCells g 286 [.string ⟨(v).toArray⟩]) g t ({x with rp := v} : Wmg).cells.toArray :=
  Blk.mid_at [.string ⟨(v).toArray⟩] [.string ⟨x.rp.toArray⟩] ([.int .i64 x.q] ++ ([.int .i64 x.f] ++ ([.int .i64 x.t] ++ (x.cm.cells ++ (x.st.cells ++ (x.ce.cells ++ (x.ak.cells ++ ([.int .i64 x.e] ++ ([.int .i64 x.r] ++ ([.int .u64 (x.tm : Int)] ++ (x.pr.cells ++ (x.po.cells ++ (x.vt.cells ++ ([.int .i64 x.i] ++ (x.en.cells ++ (x.op.cells ++ (x.dn.cells))))))))))))))))) (x.de.cells) 286 (by simp only [List.length_append, List.length_cons, List.length_nil, Wcm.len hx.cm, Wst.len hx.st, Wce.len hx.ce, Wst.len hx.ak, Wpr.len x.pr, Wpo.len x.po, Wvt.len hx.vt, Wen.len hx.en, Wop.len hx.op, Wdn.len x.dn]) rfl _ _ (by simp only [Wmg.cells, List.append_assoc, List.append_nil]) (by simp only [Wmg.cells, List.append_assoc, List.append_nil]) hb
theorem Wmg.blk_en {w : World} {g : Nat} {t : TypeId} {x : Wmg} (hx : x.Len) (v : Wen) (hv : v.cells.length = 35) (hb : Blk w g t x.cells.toArray) : Blk (w.setCells g 213 v.cells) g t ({x with en := v} : Wmg).cells.toArray :=
  Blk.mid_at v.cells x.en.cells ([.int .i64 x.q] ++ ([.int .i64 x.f] ++ ([.int .i64 x.t] ++ (x.cm.cells ++ (x.st.cells ++ (x.ce.cells ++ (x.ak.cells ++ ([.int .i64 x.e] ++ ([.int .i64 x.r] ++ ([.int .u64 (x.tm : Int)] ++ (x.pr.cells ++ (x.po.cells ++ (x.vt.cells ++ ([.int .i64 x.i])))))))))))))) (x.op.cells ++ (x.dn.cells ++ ([.string ⟨x.rp.toArray⟩] ++ (x.de.cells)))) 213 (by simp only [List.length_append, List.length_cons, List.length_nil, Wcm.len hx.cm, Wst.len hx.st, Wce.len hx.ce, Wst.len hx.ak, Wpr.len x.pr, Wpo.len x.po, Wvt.len hx.vt]) (by rw [hv, Wen.len hx.en]) _ _ (by simp only [Wmg.cells, List.append_assoc, List.append_nil]) (by simp only [Wmg.cells, List.append_assoc, List.append_nil]) hb
set_option maxHeartbeats 2000000 in
theorem mget_i (x : Wmg) (hz : x.Len) (hq : x.q = 11) (w : World) (F : List Nat) (g gm : Nat) (s : Ps) (hr : Rs w F g s) (hb : Blk w gm 61 x.cells.toArray) (hgm : gm ≠ g) (hF : ¬ gm ∈ F) :
    Calls Tryz.prog 58 #[.pointer (some ⟨g, 0, none⟩), .pointer (some ⟨gm, 0, none⟩)] w fun e w' => e = .returned (.bool true) ∧ Blk w' gm 61 ({x with i := (pI s).1} : Wmg).cells.toArray ∧ Rs w' F g (pI s).2 ∧ Fr [g, gm] w w' := by
  have hq0 : w.cell? ⟨gm, 0, none⟩ = some (.int .i64 11) := by have h := hb.range (cs := x.cells) 0 (.int .i64 x.q) rfl; rw [hq] at h; exact h
  have HR := Lib.hid hr
  have HB := Lib.hid hb
  have HGM := Lib.hid hgm
  have HNF := Lib.hid hF
  have HZ := Lib.hid hz
  have HSI : Hid ((Tryz.prog.info? 3).map (·.size) = some 1) := Lib.hid (by kernel_rfl)
  have HSU : Hid ((Tryz.prog.info? 30).map (·.size) = some 1) := Lib.hid (by kernel_rfl)
  have HLT : Hid (∀ y : Wmg, y.Len → ∀ k < 295, k < y.cells.toArray.size) := Lib.hid (fun y hy k hk => by rw [List.size_toArray, Wmg.lenz hy]; exact hk)
  clear hr hb hgm hF hq hz
  go_enter Tryz.func58, Tryz.ntmps58
  go_wp2_with fail
  refine (getInt_any HR.out).mono ?_
  rintro e_ w1 ⟨rfl, h1, h2⟩
  have HB1 := Lib.hid (HB.out.keep h2 (by have := HGM.out; simpa using this))
  have HR1 := Lib.hid h1
  have HF1 : Hid (Fr [g] w w1) := Lib.hid (h2)
  clear h1 h2
  have HFS : Hid (Fr [gm] w1 (w1.setCells gm 212 [.int .i64 (pI s).1])) := Lib.hid (Fr.setCells (fun _ => by simp) [.int .i64 (pI s).1] 212 _ (Fr.refl _ _))
  have HBZ := Lib.hid (Wmg.blk_i HZ.out (pI s).1 HB1.out)
  go_wp2_with (refine wpList_store_at rfl 3 _ _ rfl gm 212 (.int .i64 (pI s).1) rfl rfl rfl 61 _ HB1.out (HLT.out _ HZ.out 212 (by omega)) HSI.out ?_)
  change bodyPost _ _ _ _ _ (w1.setCells gm 212 [.int .i64 (pI s).1])
  generalize w1.setCells gm 212 [.int .i64 (pI s).1] = wz at *
  go_ret
  exact ⟨rfl, HBZ.out, HR1.out.fr HFS.out (by have := HGM.out; simp; exact fun h => this h.symm) (fun q hq hm => HNF.out (by simp at hm; exact hm ▸ hq)), (HF1.out.mono (fun q hq _ => by simp at hq; simp [hq])).trans HFS.out (fun q hq _ => by simp at hq; simp [hq])⟩
set_option maxHeartbeats 2000000 in
theorem mget_en (x : Wmg) (hz : x.Len) (hq : x.q = 9) (w : World) (F : List Nat) (g gm : Nat) (s : Ps) (hr : Rs w F g s) (hb : Blk w gm 61 x.cells.toArray) (hgm : gm ≠ g) (hF : ¬ gm ∈ F) :
    Calls Tryz.prog 58 #[.pointer (some ⟨g, 0, none⟩), .pointer (some ⟨gm, 0, none⟩)] w fun e w' => e = .returned (.bool true) ∧ Blk w' gm 61 ({x with i := (pI s).1, en := (pEn (pI s).2).1} : Wmg).cells.toArray ∧ Rs w' F g (pEn (pI s).2).2 ∧ Fr [g, gm] w w' := by
  have hq0 : w.cell? ⟨gm, 0, none⟩ = some (.int .i64 9) := by have h := hb.range (cs := x.cells) 0 (.int .i64 x.q) rfl; rw [hq] at h; exact h
  have HR := Lib.hid hr
  have HB := Lib.hid hb
  have HGM := Lib.hid hgm
  have HNF := Lib.hid hF
  have HZ := Lib.hid hz
  have HSI : Hid ((Tryz.prog.info? 3).map (·.size) = some 1) := Lib.hid (by kernel_rfl)
  have HSU : Hid ((Tryz.prog.info? 30).map (·.size) = some 1) := Lib.hid (by kernel_rfl)
  have HLT : Hid (∀ y : Wmg, y.Len → ∀ k < 295, k < y.cells.toArray.size) := Lib.hid (fun y hy k hk => by rw [List.size_toArray, Wmg.lenz hy]; exact hk)
  clear hr hb hgm hF hq hz
  go_enter Tryz.func58, Tryz.ntmps58
  go_wp2_with fail
  refine (getInt_any HR.out).mono ?_
  rintro e_ w1 ⟨rfl, h1, h2⟩
  have HB1 := Lib.hid (HB.out.keep h2 (by have := HGM.out; simpa using this))
  have HR1 := Lib.hid h1
  have HF1 : Hid (Fr [g] w w1) := Lib.hid (h2)
  clear h1 h2
  go_wp2_with fail
  refine (getEntry_any HR1.out).mono ?_
  rintro e_ w2 ⟨rfl, h1, h2⟩
  have HB2 := Lib.hid (HB1.out.keep h2 (by have := HGM.out; simpa using this))
  have HR2 := Lib.hid h1
  have HF2 : Hid (Fr [g] w w2) := Lib.hid (HF1.out.trans h2 (fun q hq _ => hq))
  clear h1 h2
  have HVL : Hid ((pEn (pI s).2).1.cells.length = 35) := Lib.hid (Wen.len (pEn_ok _).h)
  have HONE : Hid ((pEn (pI s).2).1.cells.toArray.all (·.oneCell') = true) := Lib.hid (all_oneCell_toArray (Wen.one _))
  have HBI := Lib.hid (Wmg.blk_i HZ.out (pI s).1 HB2.out)
  have HZ1 : Hid (Wmg.Len {x with i := (pI s).1}) := Lib.hid ⟨HZ.out.cm, HZ.out.st, HZ.out.ce, HZ.out.ak, HZ.out.vt, HZ.out.en, HZ.out.op⟩
  have HBZ := Lib.hid (Wmg.blk_en HZ1.out (pEn (pI s).2).1 HVL.out HBI.out)
  have HTH : Hid ((w2.setCells gm 212 [.int .i64 (pI s).1]).there gm 213 (pEn (pI s).2).1.cells.toArray.size) := Lib.hid (HBI.out.thereM _ _ (by rw [List.size_toArray, HVL.out, List.size_toArray, Wmg.lenz HZ1.out]; omega))
  have HSZ : Hid ((Tryz.prog.info? 51).map (·.size) = some (pEn (pI s).2).1.cells.toArray.size) := Lib.hid (by rw [List.size_toArray, HVL.out]; kernel_rfl)
  obtain ⟨V, hV⟩ : ∃ V : List Value, V = (pEn (pI s).2).1.cells := ⟨_, rfl⟩
  rw [← hV] at HVL HONE HTH HSZ HBZ ⊢
  have HVV := Lib.hid hV
  clear hV
  have HFS : Hid (Fr [gm] w2 ((w2.setCells gm 212 [.int .i64 (pI s).1]).setCells gm 213 V)) := Lib.hid (Fr.setCells (fun _ => by simp) V 213 _ (Fr.setCells (fun _ => by simp) [.int .i64 (pI s).1] 212 _ (Fr.refl _ _)))
  go_wp2_with (first
    | (refine wpList_store_at rfl 3 _ _ rfl gm 212 (.int .i64 (pI s).1) rfl rfl rfl 61 _ HB2.out (HLT.out _ HZ.out 212 (by omega)) HSI.out ?_)
    | (refine wpList_store_mid rfl 51 _ _ rfl gm 213 V.toArray rfl rfl HTH.out HSZ.out HONE.out ?_))
  change bodyPost _ _ _ _ _ ((w2.setCells gm 212 [.int .i64 (pI s).1]).setCells gm 213 V)
  generalize (w2.setCells gm 212 [.int .i64 (pI s).1]).setCells gm 213 V = wz at *
  go_ret
  exact ⟨rfl, HBZ.out, HR2.out.fr HFS.out (by have := HGM.out; simp; exact fun h => this h.symm) (fun q hq hm => HNF.out (by simp at hm; exact hm ▸ hq)), (HF2.out.mono (fun q hq _ => by simp at hq; simp [hq])).trans HFS.out (fun q hq _ => by simp at hq; simp [hq])⟩
set_option maxHeartbeats 2000000 in
theorem mget_close (x : Wmg) (hz : x.Len) (hq : x.q = 5) (w : World) (F : List Nat) (g gm : Nat) (s : Ps) (hr : Rs w F g s) (hb : Blk w gm 61 x.cells.toArray) (hgm : gm ≠ g) (hF : ¬ gm ∈ F) :
    Calls Tryz.prog 58 #[.pointer (some ⟨g, 0, none⟩), .pointer (some ⟨gm, 0, none⟩)] w fun e w' => e = .returned (.bool true) ∧ Blk w' gm 61 ({x with e := (pI s).1, r := (pI (pI s).2).1, tm := (pN (pI (pI s).2).2).1} : Wmg).cells.toArray ∧ Rs w' F g (pN (pI (pI s).2).2).2 ∧ Fr [g, gm] w w' := by
  have hq0 : w.cell? ⟨gm, 0, none⟩ = some (.int .i64 5) := by have h := hb.range (cs := x.cells) 0 (.int .i64 x.q) rfl; rw [hq] at h; exact h
  have HR := Lib.hid hr
  have HB := Lib.hid hb
  have HGM := Lib.hid hgm
  have HNF := Lib.hid hF
  have HZ := Lib.hid hz
  have HSI : Hid ((Tryz.prog.info? 3).map (·.size) = some 1) := Lib.hid (by kernel_rfl)
  have HSU : Hid ((Tryz.prog.info? 30).map (·.size) = some 1) := Lib.hid (by kernel_rfl)
  have HLT : Hid (∀ y : Wmg, y.Len → ∀ k < 295, k < y.cells.toArray.size) := Lib.hid (fun y hy k hk => by rw [List.size_toArray, Wmg.lenz hy]; exact hk)
  clear hr hb hgm hF hq hz
  go_enter Tryz.func58, Tryz.ntmps58
  go_wp2_with fail
  refine (getInt_any HR.out).mono ?_
  rintro e_ w1 ⟨rfl, h1, h2⟩
  have HB1 := Lib.hid (HB.out.keep h2 (by have := HGM.out; simpa using this))
  have HR1 := Lib.hid h1
  have HF1 : Hid (Fr [g] w w1) := Lib.hid (h2)
  clear h1 h2
  go_wp2_with fail
  refine (getInt_any HR1.out).mono ?_
  rintro e_ w2 ⟨rfl, h1, h2⟩
  have HB2 := Lib.hid (HB1.out.keep h2 (by have := HGM.out; simpa using this))
  have HR2 := Lib.hid h1
  have HF2 : Hid (Fr [g] w w2) := Lib.hid (HF1.out.trans h2 (fun q hq _ => hq))
  clear h1 h2
  go_wp2_with fail
  refine (getNum_any HR2.out).mono ?_
  rintro e_ w3 ⟨rfl, h1, h2⟩
  have HB3 := Lib.hid (HB2.out.keep h2 (by have := HGM.out; simpa using this))
  have HR3 := Lib.hid h1
  have HF3 : Hid (Fr [g] w w3) := Lib.hid (HF2.out.trans h2 (fun q hq _ => hq))
  clear h1 h2
  have HZ1 : Hid (Wmg.Len {x with e := (pI s).1}) := Lib.hid ⟨HZ.out.cm, HZ.out.st, HZ.out.ce, HZ.out.ak, HZ.out.vt, HZ.out.en, HZ.out.op⟩
  have HZ2 : Hid (Wmg.Len {x with e := (pI s).1, r := (pI (pI s).2).1}) := Lib.hid ⟨HZ.out.cm, HZ.out.st, HZ.out.ce, HZ.out.ak, HZ.out.vt, HZ.out.en, HZ.out.op⟩
  have HB4 := Lib.hid (Wmg.blk_e HZ.out (pI s).1 HB3.out)
  have HB5 := Lib.hid (Wmg.blk_r HZ1.out (pI (pI s).2).1 HB4.out)
  have HBZ := Lib.hid (Wmg.blk_tm HZ2.out (pN (pI (pI s).2).2).1 HB5.out)
  have HFS : Hid (Fr [gm] w3 (((w3.setCells gm 154 [.int .i64 (pI s).1]).setCells gm 155 [.int .i64 (pI (pI s).2).1]).setCells gm 156 [.int .u64 ((pN (pI (pI s).2).2).1 : Nat)])) := Lib.hid (Fr.setCells (fun _ => by simp) [.int .u64 ((pN (pI (pI s).2).2).1 : Nat)] 156 _ (Fr.setCells (fun _ => by simp) [.int .i64 (pI (pI s).2).1] 155 _ (Fr.setCells (fun _ => by simp) [.int .i64 (pI s).1] 154 _ (Fr.refl _ _))))
  go_wp2_with (first
    | (refine wpList_store_at rfl 3 _ _ rfl gm 154 (.int .i64 (pI s).1) rfl rfl rfl 61 _ HB3.out (HLT.out _ HZ.out 154 (by omega)) HSI.out ?_)
    | (refine wpList_store_at rfl 3 _ _ rfl gm 155 (.int .i64 (pI (pI s).2).1) rfl rfl rfl 61 _ HB4.out (HLT.out _ HZ1.out 155 (by omega)) HSI.out ?_)
    | (refine wpList_store_at rfl 30 _ _ rfl gm 156 (.int .u64 ((pN (pI (pI s).2).2).1 : Nat)) rfl rfl rfl 61 _ HB5.out (HLT.out _ HZ2.out 156 (by omega)) HSU.out ?_))
  change bodyPost _ _ _ _ _ (((w3.setCells gm 154 [.int .i64 (pI s).1]).setCells gm 155 [.int .i64 (pI (pI s).2).1]).setCells gm 156 [.int .u64 ((pN (pI (pI s).2).2).1 : Nat)])
  generalize ((w3.setCells gm 154 [.int .i64 (pI s).1]).setCells gm 155 [.int .i64 (pI (pI s).2).1]).setCells gm 156 [.int .u64 ((pN (pI (pI s).2).2).1 : Nat)] = wz at *
  go_ret
  exact ⟨rfl, HBZ.out, HR3.out.fr HFS.out (by have := HGM.out; simp; exact fun h => this h.symm) (fun q hq hm => HNF.out (by simp at hm; exact hm ▸ hq)), (HF3.out.mono (fun q hq _ => by simp at hq; simp [hq])).trans HFS.out (fun q hq _ => by simp at hq; simp [hq])⟩
theorem conv_back {w : World} {A : Option Addr} {n c : Nat} {l : List UInt8} (hy : By w A n l) : (convert 52 9 (.slice A n c)).run Tryz.prog w = .ok (.string ⟨l.toArray⟩) w := by
  cases A with
  | none =>
    obtain ⟨rfl, rfl⟩ := hy.none_
    rw [run_convert_bytes_string w 52 9 5 none 0 c Tryz.underlying52 Tryz.underlying5 Tryz.underlying9]
    rfl
  | some a =>
    obtain ⟨hl, hc⟩ := hy
    subst hl
    refine run_convert_bytes_back w 52 9 5 a c l Tryz.underlying52 Tryz.underlying5 Tryz.underlying9 (fun j hj => ?_)
    obtain ⟨ad, e, hc⟩ := hc (by omega)
    injection e with e
    subst e
    exact hc j _ (by simp [List.getElem?_eq_getElem hj, by8])
set_option maxHeartbeats 2000000 in
theorem mget_reply (x : Wmg) (hz : x.Len) (hq : x.q = 13) (w : World) (F : List Nat) (g gm : Nat) (s : Ps) (hr : Rs w F g s) (hb : Blk w gm 61 x.cells.toArray) (hgm : gm ≠ g) (hF : ¬ gm ∈ F) :
    Calls Tryz.prog 58 #[.pointer (some ⟨g, 0, none⟩), .pointer (some ⟨gm, 0, none⟩)] w fun e w' => e = .returned (.bool true) ∧ Blk w' gm 61 ({x with i := (pI s).1, rp := (pR (pI s).2).1} : Wmg).cells.toArray ∧ Rs w' F g (pR (pI s).2).2 ∧ Fr [g, gm] w w' := by
  have hq0 : w.cell? ⟨gm, 0, none⟩ = some (.int .i64 13) := by have h := hb.range (cs := x.cells) 0 (.int .i64 x.q) rfl; rw [hq] at h; exact h
  have HR := Lib.hid hr
  have HB := Lib.hid hb
  have HGM := Lib.hid hgm
  have HNF := Lib.hid hF
  have HZ := Lib.hid hz
  have HSI : Hid ((Tryz.prog.info? 3).map (·.size) = some 1) := Lib.hid (by kernel_rfl)
  have HSU : Hid ((Tryz.prog.info? 30).map (·.size) = some 1) := Lib.hid (by kernel_rfl)
  have HLT : Hid (∀ y : Wmg, y.Len → ∀ k < 295, k < y.cells.toArray.size) := Lib.hid (fun y hy k hk => by rw [List.size_toArray, Wmg.lenz hy]; exact hk)
  clear hr hb hgm hF hq hz
  go_enter Tryz.func58, Tryz.ntmps58
  go_wp2_with fail
  refine (getInt_any HR.out).mono ?_
  rintro e_ w1 ⟨rfl, h1, h2⟩
  have HB1 := Lib.hid (HB.out.keep h2 (by have := HGM.out; simpa using this))
  have HR1 := Lib.hid h1
  have HF1 : Hid (Fr [g] w w1) := Lib.hid (h2)
  clear h1 h2
  go_wp2_with fail
  refine (getRow_any HR1.out).mono ?_
  rintro e_ w2 ⟨A, c, rfl, hy, hbk, hlc, h1, h2⟩
  have hconv := conv_back (c := c) hy
  clear hy hbk hlc
  have HB2 := Lib.hid (HB1.out.keep h2 (by have := HGM.out; simpa using this))
  have HR2 := Lib.hid h1
  have HF2 : Hid (Fr [g] w w2) := Lib.hid (HF1.out.trans h2 (fun q hq _ => hq))
  clear h1 h2
  have HBI := Lib.hid (Wmg.blk_i HZ.out (pI s).1 HB2.out)
  have HZ1 : Hid (Wmg.Len {x with i := (pI s).1}) := Lib.hid ⟨HZ.out.cm, HZ.out.st, HZ.out.ce, HZ.out.ak, HZ.out.vt, HZ.out.en, HZ.out.op⟩
  have HSS : Hid ((Tryz.prog.info? 9).map (·.size) = some 1) := Lib.hid (by kernel_rfl)
  have HBZ := Lib.hid (Wmg.blk_rp HZ1.out (pR (pI s).2).1 HBI.out)
  have HFS : Hid (Fr [gm] w2 ((w2.setCells gm 212 [.int .i64 (pI s).1]).setCells gm 286 [.string ⟨(pR (pI s).2).1.toArray⟩])) := Lib.hid (Fr.setCells (fun _ => by simp) [.string ⟨(pR (pI s).2).1.toArray⟩] 286 _ (Fr.setCells (fun _ => by simp) [.int .i64 (pI s).1] 212 _ (Fr.refl _ _)))
  go_wp2_with (first
    | (refine wpList_store_at rfl 3 _ _ rfl gm 212 (.int .i64 (pI s).1) rfl rfl rfl 61 _ HB2.out (HLT.out _ HZ.out 212 (by omega)) HSI.out ?_)
    | (refine wpList_store_at rfl 9 _ _ rfl gm 286 (.string ⟨(pR (pI s).2).1.toArray⟩) rfl rfl rfl 61 _ HBI.out (HLT.out _ HZ1.out 286 (by omega)) HSS.out ?_))
  change bodyPost _ _ _ _ _ ((w2.setCells gm 212 [.int .i64 (pI s).1]).setCells gm 286 [.string ⟨(pR (pI s).2).1.toArray⟩])
  generalize (w2.setCells gm 212 [.int .i64 (pI s).1]).setCells gm 286 [.string ⟨(pR (pI s).2).1.toArray⟩] = wz at *
  go_ret
  exact ⟨rfl, HBZ.out, HR2.out.fr HFS.out (by have := HGM.out; simp; exact fun h => this h.symm) (fun q hq hm => HNF.out (by simp at hm; exact hm ▸ hq)), (HF2.out.mono (fun q hq _ => by simp at hq; simp [hq])).trans HFS.out (fun q hq _ => by simp at hq; simp [hq])⟩
set_option maxHeartbeats 2000000 in
theorem mget_none (x : Wmg) (hq : ¬ (1 ≤ x.q ∧ x.q ≤ 14)) (w : World) (g gm : Nat) (hb : Blk w gm 61 x.cells.toArray) :
    Calls Tryz.prog 58 #[.pointer (some ⟨g, 0, none⟩), .pointer (some ⟨gm, 0, none⟩)] w fun e w' => e = .returned (.bool false) ∧ w = w' := by
  have hq0 : w.cell? ⟨gm, 0, none⟩ = some (.int .i64 x.q) := hb.range (cs := x.cells) 0 (.int .i64 x.q) rfl
  have HQ := Lib.hid hq
  clear hb hq
  go_enter Tryz.func58, Tryz.ntmps58
  have n1 : (x.q == (1 : Int)) = false := by have := HQ.out; simp; omega
  have n2 : (x.q == (2 : Int)) = false := by have := HQ.out; simp; omega
  have n3 : (x.q == (3 : Int)) = false := by have := HQ.out; simp; omega
  have n4 : (x.q == (4 : Int)) = false := by have := HQ.out; simp; omega
  have n5 : (x.q == (5 : Int)) = false := by have := HQ.out; simp; omega
  have n6 : (x.q == (6 : Int)) = false := by have := HQ.out; simp; omega
  have n7 : (x.q == (7 : Int)) = false := by have := HQ.out; simp; omega
  have n8 : (x.q == (8 : Int)) = false := by have := HQ.out; simp; omega
  have n9 : (x.q == (9 : Int)) = false := by have := HQ.out; simp; omega
  have n10 : (x.q == (10 : Int)) = false := by have := HQ.out; simp; omega
  have n11 : (x.q == (11 : Int)) = false := by have := HQ.out; simp; omega
  have n12 : (x.q == (12 : Int)) = false := by have := HQ.out; simp; omega
  have n13 : (x.q == (13 : Int)) = false := by have := HQ.out; simp; omega
  have n14 : (x.q == (14 : Int)) = false := by have := HQ.out; simp; omega
  go_wp2_with fail
  go_ret
  exact ⟨rfl, rfl⟩
end Go.Proofs.YtnpjihdhpoddgaaGreat

namespace Go.Proofs.YtnpjihdhpoddgaaGreat
open Go.RowKit
set_option maxRecDepth 100000
def pW {α : Type} (z : α) (p : Ps → α × Ps) (s : Ps) : α × Ps := (if (p s).2.2 then z else (p s).1, (p s).2)
def zWce : Wce := ⟨⟨0, 0, List.replicate 32 0, 0, 0, 0⟩, none, 0, 0, []⟩
def zWpr : Wpr := ⟨0, 0, 0, none, 0, 0, [], 0, 0⟩
def zWba : Wba := ⟨0, 0, none, 0, 0, [], none, 0, 0, [], none, 0, 0, []⟩
theorem zero_in : i64In 0 := by unfold i64In; omega
theorem zWce_ok (w : World) (S : List Nat) : zWce.Li w S := ⟨⟨zero_in, zero_in, rfl, zero_in, zero_in, zero_in⟩, Lst.nil _, by decide, fun h => absurd h (by decide)⟩
theorem zWpr_ok (w : World) (S : List Nat) : zWpr.Li w S := ⟨zero_in, zero_in, by decide, Lst.nil _, by decide, fun h => absurd h (by decide), zero_in, zero_in⟩
theorem zWba_ok (w : World) (S : List Nat) : zWba.Li w S := ⟨zero_in, by decide, Lst.nil _, by decide, fun h => absurd h (by decide), Lst.nil _, by decide, fun h => absurd h (by decide), Lst.nil _, by decide, fun h => absurd h (by decide)⟩

end Go.Proofs.YtnpjihdhpoddgaaGreat

namespace Go.Proofs.YtnpjihdhpoddgaaGreat
open Go.RowKit
set_option maxRecDepth 100000
/-- what a message says -/
structure Cmg where
  q : Int
  f : Int
  t : Int
  cm : Wcm
  st : Wst
  ce : Cce
  ak : Wst
  e : Int
  r : Int
  tm : Nat
  pr : Cpr
  po : Cpo
  vt : Wvt
  i : Int
  en : Wen
  op : Cop
  dn : Wdn
  rp : List UInt8
  de : Cdc
def Wmg.con (x : Wmg) : Cmg := ⟨x.q, x.f, x.t, x.cm, x.st, x.ce.con, x.ak, x.e, x.r, x.tm, x.pr.con, x.po.con, x.vt, x.i, x.en, x.op.con, x.dn, x.rp, x.de.con⟩
/-- what its kind names, read -/
def pM (c : Cmg) (s : Ps) : Cmg × Ps := if c.q = 1 then ({c with cm := (pCm s).1}, (pCm s).2) else if c.q = 2 then ({c with st := (pSt s).1}, (pSt s).2) else if c.q = 3 then ({c with ce := (pCe s).1}, (pCe s).2) else if c.q = 4 then ({c with ak := (pSt s).1}, (pSt s).2) else if c.q = 5 then ({c with e := (pI s).1, r := (pI (pI s).2).1, tm := (pN (pI (pI s).2).2).1}, (pN (pI (pI s).2).2).2) else if c.q = 6 then ({c with pr := (pPr s).1}, (pPr s).2) else if c.q = 7 then ({c with po := (pPo s).1}, (pPo s).2) else if c.q = 8 then ({c with vt := (pVt s).1}, (pVt s).2) else if c.q = 9 then ({c with i := (pI s).1, en := (pEn (pI s).2).1}, (pEn (pI s).2).2) else if c.q = 10 then ({c with op := (pOp s).1}, (pOp s).2) else if c.q = 11 then ({c with i := (pI s).1}, (pI s).2) else if c.q = 12 then ({c with dn := (pDn s).1}, (pDn s).2) else if c.q = 13 then ({c with i := (pI s).1, rp := (pR (pI s).2).1}, (pR (pI s).2).2) else if c.q = 14 then ({c with de := (pDc s).1}, (pDc s).2) else (c, s)
theorem pM_1 {c : Cmg} (s : Ps) (h : c.q = 1) : pM c s = ({c with cm := (pCm s).1}, (pCm s).2) := by simp [pM, h]
theorem pM_2 {c : Cmg} (s : Ps) (h : c.q = 2) : pM c s = ({c with st := (pSt s).1}, (pSt s).2) := by simp [pM, h]
theorem pM_3 {c : Cmg} (s : Ps) (h : c.q = 3) : pM c s = ({c with ce := (pCe s).1}, (pCe s).2) := by simp [pM, h]
theorem pM_4 {c : Cmg} (s : Ps) (h : c.q = 4) : pM c s = ({c with ak := (pSt s).1}, (pSt s).2) := by simp [pM, h]
theorem pM_5 {c : Cmg} (s : Ps) (h : c.q = 5) : pM c s = ({c with e := (pI s).1, r := (pI (pI s).2).1, tm := (pN (pI (pI s).2).2).1}, (pN (pI (pI s).2).2).2) := by simp [pM, h]
theorem pM_6 {c : Cmg} (s : Ps) (h : c.q = 6) : pM c s = ({c with pr := (pPr s).1}, (pPr s).2) := by simp [pM, h]
theorem pM_7 {c : Cmg} (s : Ps) (h : c.q = 7) : pM c s = ({c with po := (pPo s).1}, (pPo s).2) := by simp [pM, h]
theorem pM_8 {c : Cmg} (s : Ps) (h : c.q = 8) : pM c s = ({c with vt := (pVt s).1}, (pVt s).2) := by simp [pM, h]
theorem pM_9 {c : Cmg} (s : Ps) (h : c.q = 9) : pM c s = ({c with i := (pI s).1, en := (pEn (pI s).2).1}, (pEn (pI s).2).2) := by simp [pM, h]
theorem pM_10 {c : Cmg} (s : Ps) (h : c.q = 10) : pM c s = ({c with op := (pOp s).1}, (pOp s).2) := by simp [pM, h]
theorem pM_11 {c : Cmg} (s : Ps) (h : c.q = 11) : pM c s = ({c with i := (pI s).1}, (pI s).2) := by simp [pM, h]
theorem pM_12 {c : Cmg} (s : Ps) (h : c.q = 12) : pM c s = ({c with dn := (pDn s).1}, (pDn s).2) := by simp [pM, h]
theorem pM_13 {c : Cmg} (s : Ps) (h : c.q = 13) : pM c s = ({c with i := (pI s).1, rp := (pR (pI s).2).1}, (pR (pI s).2).2) := by simp [pM, h]
theorem pM_14 {c : Cmg} (s : Ps) (h : c.q = 14) : pM c s = ({c with de := (pDc s).1}, (pDc s).2) := by simp [pM, h]
theorem pM_none {c : Cmg} (s : Ps) (h : ¬ (1 ≤ c.q ∧ c.q ≤ 14)) : pM c s = (c, s) := by
  unfold pM
  rw [if_neg (by omega)]
  rw [if_neg (by omega)]
  rw [if_neg (by omega)]
  rw [if_neg (by omega)]
  rw [if_neg (by omega)]
  rw [if_neg (by omega)]
  rw [if_neg (by omega)]
  rw [if_neg (by omega)]
  rw [if_neg (by omega)]
  rw [if_neg (by omega)]
  rw [if_neg (by omega)]
  rw [if_neg (by omega)]
  rw [if_neg (by omega)]
  rw [if_neg (by omega)]
structure Wmg.Li (w : World) (S : List Nat) (x : Wmg) : Prop where
  cm : x.cm.Ok
  st : x.st.Ok
  ce : x.ce.Li w S
  ak : x.ak.Ok
  pr : x.pr.Li w S
  po : x.po.Li w S
  vt : x.vt.Ok
  en : x.en.Ok
  op : x.op.Ok w S
  dn : x.dn.Ok
  de : x.de.Li w S
theorem mb0_ok (w : World) (S : List Nat) : mb0.Li w S := ⟨zero_in, by decide, Lst.nil _, by decide, fun h => absurd h (by decide), Lst.nil _, by decide, fun h => absurd h (by decide), Lst.nil _, by decide, fun h => absurd h (by decide)⟩
theorem mz_li (w : World) (S : List Nat) (q f t : Int) : (mz q f t).Li w S :=
  ⟨⟨zero_in, zero_in, rfl, zero_in, zero_in, zero_in⟩, ⟨zero_in, zero_in, zero_in, rfl, (show 0 < 18446744073709551616 by decide), zero_in, zero_in⟩, zWce_ok w S, ⟨zero_in, zero_in, zero_in, rfl, (show 0 < 18446744073709551616 by decide), zero_in, zero_in⟩,
   zWpr_ok w S, ⟨zero_in, zero_in, zero_in, zero_in, mb0_ok w S, zero_in, zero_in⟩, ⟨zero_in, zero_in, zero_in, zero_in, rfl, zero_in, zero_in⟩, ⟨zero_in, zero_in, rfl, (show 0 < 18446744073709551616 by decide)⟩,
   ⟨zero_in, By.nil _ _, (show 0 ≤ 260 by decide), fun k hk => by simp [mz, bk] at hk, fun k hk => by simp [mz, bk] at hk, rfl, (show 0 ≤ 0 by decide)⟩, ⟨zero_in, zero_in, zero_in, zero_in⟩, ⟨zero_in, zero_in, mb0_ok w S, Lst.nil _, (show 0 ≤ 100 by decide), fun h => absurd h (show ¬ 0 < 0 by decide)⟩⟩
theorem mget_any (q f t : Int) (w : World) (F : List Nat) (g gm : Nat) (s : Ps) (hr : Rs w F g s) (hb : Blk w gm 61 (mz q f t).cells.toArray) (hgm : gm ≠ g) (hF : ¬ gm ∈ F) :
    Calls Tryz.prog 58 #[.pointer (some ⟨g, 0, none⟩), .pointer (some ⟨gm, 0, none⟩)] w fun e w' => ∃ y : Wmg, e = .returned (.bool (decide (1 ≤ q ∧ q ≤ 14))) ∧ y.con = (pM (mz q f t).con s).1 ∧ y.Len ∧ (∀ S0 : List Nat, (∀ k ∈ S0, k < w.heap.size) → y.Li w' S0) ∧ Blk w' gm 61 y.cells.toArray ∧ Rs w' F g (pM (mz q f t).con s).2 ∧ Fr [g, gm] w w' := by
  by_cases hm : 1 ≤ q ∧ q ≤ 14
  · rw [decide_eq_true hm]
    have hs : q = 1 ∨ q = 2 ∨ q = 3 ∨ q = 4 ∨ q = 5 ∨ q = 6 ∨ q = 7 ∨ q = 8 ∨ q = 9 ∨ q = 10 ∨ q = 11 ∨ q = 12 ∨ q = 13 ∨ q = 14 := by omega
    rcases hs with h | h | h | h | h | h | h | h | h | h | h | h | h | h
    · rw [pM_1 s (show (mz q f t).con.q = 1 from h)]
      refine (mget_cm (mz q f t) (mz_len q f t) h w F g gm s hr hb hgm hF).mono ?_
      rintro e w' ⟨v, rfl, hc, hok, hb', hr', hf'⟩
      exact ⟨{mz q f t with cm := v}, rfl, by rw [← hc]; rfl, ⟨(hok [] (by simp)).h, rfl, rfl, rfl, rfl, rfl, rfl⟩, fun S0 h0 => ⟨hok S0 h0, (mz_li w' S0 q f t).st, (mz_li w' S0 q f t).ce, (mz_li w' S0 q f t).ak, (mz_li w' S0 q f t).pr, (mz_li w' S0 q f t).po, (mz_li w' S0 q f t).vt, (mz_li w' S0 q f t).en, (mz_li w' S0 q f t).op, (mz_li w' S0 q f t).dn, (mz_li w' S0 q f t).de⟩, hb', hr', hf'⟩
    · rw [pM_2 s (show (mz q f t).con.q = 2 from h)]
      refine (mget_st (mz q f t) (mz_len q f t) h w F g gm s hr hb hgm hF).mono ?_
      rintro e w' ⟨v, rfl, hc, hok, hb', hr', hf'⟩
      exact ⟨{mz q f t with st := v}, rfl, by rw [← hc]; rfl, ⟨rfl, (hok [] (by simp)).h, rfl, rfl, rfl, rfl, rfl⟩, fun S0 h0 => ⟨(mz_li w' S0 q f t).cm, hok S0 h0, (mz_li w' S0 q f t).ce, (mz_li w' S0 q f t).ak, (mz_li w' S0 q f t).pr, (mz_li w' S0 q f t).po, (mz_li w' S0 q f t).vt, (mz_li w' S0 q f t).en, (mz_li w' S0 q f t).op, (mz_li w' S0 q f t).dn, (mz_li w' S0 q f t).de⟩, hb', hr', hf'⟩
    · rw [pM_3 s (show (mz q f t).con.q = 3 from h)]
      refine (mget_ce (mz q f t) (mz_len q f t) h w F g gm s hr hb hgm hF).mono ?_
      rintro e w' ⟨v, rfl, hc, hok, hb', hr', hf'⟩
      exact ⟨{mz q f t with ce := v}, rfl, by rw [← hc]; rfl, ⟨rfl, rfl, (hok [] (by simp)).k.h, rfl, rfl, rfl, rfl⟩, fun S0 h0 => ⟨(mz_li w' S0 q f t).cm, (mz_li w' S0 q f t).st, hok S0 h0, (mz_li w' S0 q f t).ak, (mz_li w' S0 q f t).pr, (mz_li w' S0 q f t).po, (mz_li w' S0 q f t).vt, (mz_li w' S0 q f t).en, (mz_li w' S0 q f t).op, (mz_li w' S0 q f t).dn, (mz_li w' S0 q f t).de⟩, hb', hr', hf'⟩
    · rw [pM_4 s (show (mz q f t).con.q = 4 from h)]
      refine (mget_ak (mz q f t) (mz_len q f t) h w F g gm s hr hb hgm hF).mono ?_
      rintro e w' ⟨v, rfl, hc, hok, hb', hr', hf'⟩
      exact ⟨{mz q f t with ak := v}, rfl, by rw [← hc]; rfl, ⟨rfl, rfl, rfl, (hok [] (by simp)).h, rfl, rfl, rfl⟩, fun S0 h0 => ⟨(mz_li w' S0 q f t).cm, (mz_li w' S0 q f t).st, (mz_li w' S0 q f t).ce, hok S0 h0, (mz_li w' S0 q f t).pr, (mz_li w' S0 q f t).po, (mz_li w' S0 q f t).vt, (mz_li w' S0 q f t).en, (mz_li w' S0 q f t).op, (mz_li w' S0 q f t).dn, (mz_li w' S0 q f t).de⟩, hb', hr', hf'⟩
    · rw [pM_5 s (show (mz q f t).con.q = 5 from h)]
      refine (mget_close (mz q f t) (mz_len q f t) h w F g gm s hr hb hgm hF).mono ?_
      rintro e w' ⟨rfl, hb', hr', hf'⟩
      exact ⟨{mz q f t with e := (pI s).1, r := (pI (pI s).2).1, tm := (pN (pI (pI s).2).2).1}, rfl, rfl, ⟨rfl, rfl, rfl, rfl, rfl, rfl, rfl⟩, fun S0 _ => ⟨(mz_li w' S0 q f t).cm, (mz_li w' S0 q f t).st, (mz_li w' S0 q f t).ce, (mz_li w' S0 q f t).ak, (mz_li w' S0 q f t).pr, (mz_li w' S0 q f t).po, (mz_li w' S0 q f t).vt, (mz_li w' S0 q f t).en, (mz_li w' S0 q f t).op, (mz_li w' S0 q f t).dn, (mz_li w' S0 q f t).de⟩, hb', hr', hf'⟩
    · rw [pM_6 s (show (mz q f t).con.q = 6 from h)]
      refine (mget_pr (mz q f t) (mz_len q f t) h w F g gm s hr hb hgm hF).mono ?_
      rintro e w' ⟨v, rfl, hc, hok, hb', hr', hf'⟩
      exact ⟨{mz q f t with pr := v}, rfl, by rw [← hc]; rfl, ⟨rfl, rfl, rfl, rfl, rfl, rfl, rfl⟩, fun S0 h0 => ⟨(mz_li w' S0 q f t).cm, (mz_li w' S0 q f t).st, (mz_li w' S0 q f t).ce, (mz_li w' S0 q f t).ak, hok S0 h0, (mz_li w' S0 q f t).po, (mz_li w' S0 q f t).vt, (mz_li w' S0 q f t).en, (mz_li w' S0 q f t).op, (mz_li w' S0 q f t).dn, (mz_li w' S0 q f t).de⟩, hb', hr', hf'⟩
    · rw [pM_7 s (show (mz q f t).con.q = 7 from h)]
      refine (mget_po (mz q f t) (mz_len q f t) h w F g gm s hr hb hgm hF).mono ?_
      rintro e w' ⟨v, rfl, hc, hok, hb', hr', hf'⟩
      exact ⟨{mz q f t with po := v}, rfl, by rw [← hc]; rfl, ⟨rfl, rfl, rfl, rfl, rfl, rfl, rfl⟩, fun S0 h0 => ⟨(mz_li w' S0 q f t).cm, (mz_li w' S0 q f t).st, (mz_li w' S0 q f t).ce, (mz_li w' S0 q f t).ak, (mz_li w' S0 q f t).pr, hok S0 h0, (mz_li w' S0 q f t).vt, (mz_li w' S0 q f t).en, (mz_li w' S0 q f t).op, (mz_li w' S0 q f t).dn, (mz_li w' S0 q f t).de⟩, hb', hr', hf'⟩
    · rw [pM_8 s (show (mz q f t).con.q = 8 from h)]
      refine (mget_vt (mz q f t) (mz_len q f t) h w F g gm s hr hb hgm hF).mono ?_
      rintro e w' ⟨v, rfl, hc, hok, hb', hr', hf'⟩
      exact ⟨{mz q f t with vt := v}, rfl, by rw [← hc]; rfl, ⟨rfl, rfl, rfl, rfl, (hok [] (by simp)).h, rfl, rfl⟩, fun S0 h0 => ⟨(mz_li w' S0 q f t).cm, (mz_li w' S0 q f t).st, (mz_li w' S0 q f t).ce, (mz_li w' S0 q f t).ak, (mz_li w' S0 q f t).pr, (mz_li w' S0 q f t).po, hok S0 h0, (mz_li w' S0 q f t).en, (mz_li w' S0 q f t).op, (mz_li w' S0 q f t).dn, (mz_li w' S0 q f t).de⟩, hb', hr', hf'⟩
    · rw [pM_9 s (show (mz q f t).con.q = 9 from h)]
      refine (mget_en (mz q f t) (mz_len q f t) h w F g gm s hr hb hgm hF).mono ?_
      rintro e w' ⟨rfl, hb', hr', hf'⟩
      exact ⟨{mz q f t with i := (pI s).1, en := (pEn (pI s).2).1}, rfl, rfl, ⟨rfl, rfl, rfl, rfl, rfl, (pEn_ok _).h, rfl⟩, fun S0 _ => ⟨(mz_li w' S0 q f t).cm, (mz_li w' S0 q f t).st, (mz_li w' S0 q f t).ce, (mz_li w' S0 q f t).ak, (mz_li w' S0 q f t).pr, (mz_li w' S0 q f t).po, (mz_li w' S0 q f t).vt, pEn_ok _, (mz_li w' S0 q f t).op, (mz_li w' S0 q f t).dn, (mz_li w' S0 q f t).de⟩, hb', hr', hf'⟩
    · rw [pM_10 s (show (mz q f t).con.q = 10 from h)]
      refine (mget_op (mz q f t) (mz_len q f t) h w F g gm s hr hb hgm hF).mono ?_
      rintro e w' ⟨v, rfl, hc, hok, hb', hr', hf'⟩
      exact ⟨{mz q f t with op := v}, rfl, by rw [← hc]; rfl, ⟨rfl, rfl, rfl, rfl, rfl, rfl, (hok [] (by simp)).h⟩, fun S0 h0 => ⟨(mz_li w' S0 q f t).cm, (mz_li w' S0 q f t).st, (mz_li w' S0 q f t).ce, (mz_li w' S0 q f t).ak, (mz_li w' S0 q f t).pr, (mz_li w' S0 q f t).po, (mz_li w' S0 q f t).vt, (mz_li w' S0 q f t).en, hok S0 h0, (mz_li w' S0 q f t).dn, (mz_li w' S0 q f t).de⟩, hb', hr', hf'⟩
    · rw [pM_11 s (show (mz q f t).con.q = 11 from h)]
      refine (mget_i (mz q f t) (mz_len q f t) h w F g gm s hr hb hgm hF).mono ?_
      rintro e w' ⟨rfl, hb', hr', hf'⟩
      exact ⟨{mz q f t with i := (pI s).1}, rfl, rfl, ⟨rfl, rfl, rfl, rfl, rfl, rfl, rfl⟩, fun S0 _ => ⟨(mz_li w' S0 q f t).cm, (mz_li w' S0 q f t).st, (mz_li w' S0 q f t).ce, (mz_li w' S0 q f t).ak, (mz_li w' S0 q f t).pr, (mz_li w' S0 q f t).po, (mz_li w' S0 q f t).vt, (mz_li w' S0 q f t).en, (mz_li w' S0 q f t).op, (mz_li w' S0 q f t).dn, (mz_li w' S0 q f t).de⟩, hb', hr', hf'⟩
    · rw [pM_12 s (show (mz q f t).con.q = 12 from h)]
      refine (mget_dn (mz q f t) (mz_len q f t) h w F g gm s hr hb hgm hF).mono ?_
      rintro e w' ⟨v, rfl, hc, hok, hb', hr', hf'⟩
      exact ⟨{mz q f t with dn := v}, rfl, by rw [← hc]; rfl, ⟨rfl, rfl, rfl, rfl, rfl, rfl, rfl⟩, fun S0 h0 => ⟨(mz_li w' S0 q f t).cm, (mz_li w' S0 q f t).st, (mz_li w' S0 q f t).ce, (mz_li w' S0 q f t).ak, (mz_li w' S0 q f t).pr, (mz_li w' S0 q f t).po, (mz_li w' S0 q f t).vt, (mz_li w' S0 q f t).en, (mz_li w' S0 q f t).op, hok S0 h0, (mz_li w' S0 q f t).de⟩, hb', hr', hf'⟩
    · rw [pM_13 s (show (mz q f t).con.q = 13 from h)]
      refine (mget_reply (mz q f t) (mz_len q f t) h w F g gm s hr hb hgm hF).mono ?_
      rintro e w' ⟨rfl, hb', hr', hf'⟩
      exact ⟨{mz q f t with i := (pI s).1, rp := (pR (pI s).2).1}, rfl, rfl, ⟨rfl, rfl, rfl, rfl, rfl, rfl, rfl⟩, fun S0 _ => ⟨(mz_li w' S0 q f t).cm, (mz_li w' S0 q f t).st, (mz_li w' S0 q f t).ce, (mz_li w' S0 q f t).ak, (mz_li w' S0 q f t).pr, (mz_li w' S0 q f t).po, (mz_li w' S0 q f t).vt, (mz_li w' S0 q f t).en, (mz_li w' S0 q f t).op, (mz_li w' S0 q f t).dn, (mz_li w' S0 q f t).de⟩, hb', hr', hf'⟩
    · rw [pM_14 s (show (mz q f t).con.q = 14 from h)]
      refine (mget_de (mz q f t) (mz_len q f t) h w F g gm s hr hb hgm hF).mono ?_
      rintro e w' ⟨v, rfl, hc, hok, hb', hr', hf'⟩
      exact ⟨{mz q f t with de := v}, rfl, by rw [← hc]; rfl, ⟨rfl, rfl, rfl, rfl, rfl, rfl, rfl⟩, fun S0 h0 => ⟨(mz_li w' S0 q f t).cm, (mz_li w' S0 q f t).st, (mz_li w' S0 q f t).ce, (mz_li w' S0 q f t).ak, (mz_li w' S0 q f t).pr, (mz_li w' S0 q f t).po, (mz_li w' S0 q f t).vt, (mz_li w' S0 q f t).en, (mz_li w' S0 q f t).op, (mz_li w' S0 q f t).dn, hok S0 h0⟩, hb', hr', hf'⟩
  · rw [decide_eq_false hm, pM_none s (show ¬ (1 ≤ (mz q f t).con.q ∧ (mz q f t).con.q ≤ 14) from hm)]
    refine (mget_none (mz q f t) hm w g gm hb).mono ?_
    rintro e w' ⟨rfl, rfl⟩
    exact ⟨mz q f t, rfl, rfl, mz_len q f t, fun S0 _ => mz_li w S0 q f t, hb, hr, Fr.refl _ _⟩
theorem Wmg.one (x : Wmg) : ∀ v ∈ x.cells, v.oneCell' = true := by
  intro v hv
  simp only [Wmg.cells, List.mem_append, List.mem_singleton] at hv
  rcases hv with rfl | rfl | rfl | hv | hv | hv | hv | rfl | rfl | rfl | hv | hv | hv | rfl | hv | hv | hv | rfl | hv
  · rfl
  · rfl
  · rfl
  · exact Wcm.one _ v hv
  · exact Wst.one _ v hv
  · exact Wce.one _ v hv
  · exact Wst.one _ v hv
  · rfl
  · rfl
  · rfl
  · exact Wpr.one _ v hv
  · exact Wpo.one _ v hv
  · exact Wvt.one _ v hv
  · rfl
  · exact Wen.one _ v hv
  · exact Wop.one _ v hv
  · exact Wdn.one _ v hv
  · rfl
  · exact Wdc.one _ v hv
end Go.Proofs.YtnpjihdhpoddgaaGreat

namespace Go.Proofs.YtnpjihdhpoddgaaGreat
open Go.RowKit
set_option maxRecDepth 100000
theorem results_row_tmp {P : Program} {fn : Func} {p u : Tmp} {ty : TypeId} (h : fn.results = #[.cell p ty, .tmp u]) (tmps : Array Value) (w : World) (g : Nat) (t : TypeId) (cs : Array Value) (fr : Nat × Nat) (d : TypeDesc) (b : Value)
    (hp : tmps.getD p undef = .pointer (some ⟨g, 0, none⟩)) (hb : tmps.getD u undef = b) (hg : w.heap[g]? = some (.cells cs t fr))
    (hu : P.underlying ty = some d) (hd : (match d with | .struct _ | .array _ _ => true | _ => false) = true) (hi : (P.info? ty).map (·.size) = some cs.size) :
    (results fn tmps).run P w = .ok (.tuple #[.agg cs, b]) w := by
  rw [results_cell_tmp h, hp, hb]
  simp [asAddr, Result.andThen, run_loadVar_row w g t ty cs fr d hg hu hd hi]
/-- what Unpack tells of bytes -/
def pU (l : List UInt8) : Cmg × Bool :=
  if 1 ≤ (pI (l, false)).1 ∧ (pI (l, false)).1 ≤ 14 ∧ (pM (mz (pI (l, false)).1 (pI (pI (l, false)).2).1 (pI (pI (pI (l, false)).2).2).1).con (pI (pI (pI (l, false)).2).2).2).2.2 = false ∧ (pM (mz (pI (l, false)).1 (pI (pI (l, false)).2).1 (pI (pI (pI (l, false)).2).2).1).con (pI (pI (pI (l, false)).2).2).2).2.1 = [] then ((pM (mz (pI (l, false)).1 (pI (pI (l, false)).2).1 (pI (pI (pI (l, false)).2).2).1).con (pI (pI (pI (l, false)).2).2).2).1, true) else ((mz 0 0 0).con, false)
theorem Wmg.Li.keep {w W : World} {S S' : List Nat} {x : Wmg} (h : x.Li w S) (hf : Fr S w W) (hs : ∀ k ∈ S', k < w.heap.size → k ∈ S) : x.Li W S' :=
  ⟨h.cm, h.st, h.ce.keep hf hs, h.ak, h.pr.keep hf hs, h.po.keep hf hs, h.vt, h.en, h.op.keep hf hs, h.dn, h.de.keep hf hs⟩
theorem built_mg0 : Tryz.prog.built 61 [] = some (mz 0 0 0).cells.toArray := by kernel_rfl
theorem built_mg3 (q f t : Int) : Tryz.prog.built 61 [(0, .int .i64 q), (1, .int .i64 f), (2, .int .i64 t)] = some (mz q f t).cells.toArray := by kernel_rfl
theorem msg_size {x : Wmg} (hx : x.Len) : (Tryz.prog.info? 61).map (·.size) = some x.cells.toArray.size := by rw [List.size_toArray, Wmg.lenz hx]; kernel_rfl
set_option maxHeartbeats 4000000 in
theorem munpack_any (A : Option Addr) (n c : Nat) (l : List UInt8) (w : World) (hy : By w A n l) (hn : n ≤ 65536) :
    Calls Tryz.prog 18 #[.slice A n c] w fun e w' => ∃ y : Wmg, e = .returned (.tuple #[.agg y.cells.toArray, .bool (pU l).2]) ∧ y.con = (pU l).1 ∧ y.Len ∧ (∀ S0 : List Nat, (∀ k ∈ S0, k < w.heap.size) → y.Li w' S0) ∧ Fr [] w w' := by
  obtain ⟨Z, hZ⟩ : ∃ Z, Z = (mz 0 0 0).cells.toArray := ⟨_, rfl⟩
  obtain ⟨wa, hwa⟩ : ∃ wa, wa = w.alloc (Obj.cells Z 61) := ⟨_, rfl⟩
  have hf0 : Fr [] w wa := by rw [hwa]; exact (Fr.refl [] w).alloc _
  have HBZ : Hid (Blk wa w.heap.size 61 Z) := Lib.hid (by rw [hwa]; exact Blk.new _ _ _)
  have HWS : Hid (wa.heap.size = w.heap.size + 1) := Lib.hid (by rw [hwa]; simp)
  have HY := Lib.hid (hy.keep hf0 (by simp))
  have HN := Lib.hid hn
  have HLN := Lib.hid hy.1
  have HF0 := Lib.hid hf0
  have HWA := Lib.hid hwa
  have HZ := Lib.hid hZ
  have HZT : Hid ((Tryz.prog.info? 61).map (·.size) = some Z.size) := Lib.hid (by rw [hZ]; exact msg_size (mz_len 0 0 0))
  have HZO : Hid (Z.all (·.oneCell') = true) := Lib.hid (by rw [hZ]; exact all_oneCell_toArray (Wmg.one _))
  have HB0 : Hid (Tryz.prog.built 61 [] = some Z) := Lib.hid (by rw [hZ]; exact built_mg0)
  have hbig : ¬ (65536 < (n : Int)) := by omega
  have hbig2 : ¬ (65536 < n) := by omega
  have HPU : Hid (pU l = if 1 ≤ (pI (l, false)).1 ∧ (pI (l, false)).1 ≤ 14 ∧ (pM (mz (pI (l, false)).1 (pI (pI (l, false)).2).1 (pI (pI (pI (l, false)).2).2).1).con (pI (pI (pI (l, false)).2).2).2).2.2 = false ∧ (pM (mz (pI (l, false)).1 (pI (pI (l, false)).2).1 (pI (pI (pI (l, false)).2).2).1).con (pI (pI (pI (l, false)).2).2).2).2.1 = [] then ((pM (mz (pI (l, false)).1 (pI (pI (l, false)).2).1 (pI (pI (pI (l, false)).2).2).1).con (pI (pI (pI (l, false)).2).2).2).1, true) else ((mz 0 0 0).con, false)) := Lib.hid rfl
  clear hwa hf0 hy hn hZ
  go_enter Tryz.func18, Tryz.ntmps18
  go_upto_region 1 with (fail)
  change Code.wp _ _ _ _ (w.alloc (Obj.cells (mz 0 0 0).cells.toArray 61))
  rw [← HZ.out, ← HWA.out]
  go_wp2_with fail
  refine (newReader_any A n c l wa HY.out (by have := HN.out; omega)).mono ?_
  rintro e_ w1 ⟨g, F, rfl, h1, h2, h3, h4⟩
  have HR1 : Hid (Rs w1 F g (l, false)) := Lib.hid ⟨h1, by have := HLN.out; have := HN.out; simp only; omega, fun k hk => (h4 k hk).2⟩
  have HG : Hid (w.heap.size < g ∧ g < w1.heap.size) := Lib.hid ⟨by have := HWS.out; omega, h1.lt⟩
  have HNF : Hid (∀ k ∈ F, w.heap.size < k ∧ k < w1.heap.size) := Lib.hid (fun k hk => by have h := h4 k hk; have := HWS.out; omega)
  have HF1 : Hid (Fr [] w w1) := Lib.hid (HF0.out.and h2 (by simp))
  have HB1 := Lib.hid (HBZ.out.keep h2 (by simp))
  clear h1 h2 h3 h4 hbig hbig2
  go_wp2_with fail
  refine (getInt_any HR1.out).mono ?_
  rintro e_ w2 ⟨rfl, h1, h2⟩
  have HR2 := Lib.hid h1
  have HF2 : Hid (Fr [g] w1 w2) := Lib.hid h2
  clear h1 h2
  go_wp2_with fail
  refine (getInt_any HR2.out).mono ?_
  rintro e_ w3 ⟨rfl, h1, h2⟩
  have HR3 := Lib.hid h1
  have HF3 : Hid (Fr [g] w1 w3) := Lib.hid (HF2.out.trans h2 (fun x hx _ => hx))
  clear h1 h2
  go_wp2_with fail
  refine (getInt_any HR3.out).mono ?_
  rintro e_ w4 ⟨rfl, h1, h2⟩
  have HR4 := Lib.hid h1
  have HF4 : Hid (Fr [g] w1 w4) := Lib.hid (HF3.out.trans h2 (fun x hx _ => hx))
  clear h1 h2
  have HB4 := Lib.hid (HB1.out.keep HF4.out (by have := HG.out; simp; omega))
  have HS4 : Hid (w1.heap.size ≤ w4.heap.size) := Lib.hid HF4.out.size
  have HBN : Hid (Blk (w4.alloc (Obj.cells (mz 0 0 0).cells.toArray 61)) w4.heap.size 61 Z) := Lib.hid (by rw [HZ.out]; exact Blk.new _ _ _)
  obtain ⟨V, hV⟩ : ∃ V, V = (mz (pI (l, false)).1 (pI (pI (l, false)).2).1 (pI (pI (pI (l, false)).2).2).1).cells.toArray := ⟨_, rfl⟩
  have HBU : Hid (Tryz.prog.built 61 [(0, .int .i64 (pI (l, false)).1), (1, .int .i64 (pI (pI (l, false)).2).1), (2, .int .i64 (pI (pI (pI (l, false)).2).2).1)] = some V) := Lib.hid (by rw [hV]; exact built_mg3 _ _ _)
  have HVT : Hid ((Tryz.prog.info? 61).map (·.size) = some V.size) := Lib.hid (by rw [hV]; exact msg_size (mz_len _ _ _))
  have HVO : Hid (V.all (·.oneCell') = true) := Lib.hid (by rw [hV]; exact all_oneCell_toArray (Wmg.one _))
  have HVZ : Hid (Z.size = V.size) := Lib.hid (by rw [hV, HZ.out, List.size_toArray, List.size_toArray, Wmg.lenz (mz_len _ _ _), Wmg.lenz (mz_len _ _ _)])
  have HV := Lib.hid hV
  clear hV
  go_wp2_with (first
    | (refine wpList_builtg rfl 61 _ rfl _ _ HBU.out rfl ?_)
    | (refine wpList_store_blk rfl 61 _ _ rfl w4.heap.size V rfl rfl 61 Z HBN.out HVT.out HVZ.out HVO.out ?_
       intro w5 hb5 hf5
       have HB5 := Lib.hid hb5
       have HF5 := Lib.hid ((((Fr.refl [w4.heap.size] w4).alloc _)).trans hf5 (fun x hx _ => hx))
       clear hb5 hf5))
  have HR5 := Lib.hid (HR4.out.fr HF5.out (by have := HG.out; have := HS4.out; simp; omega) (fun k hk hm => by have := HNF.out k hk; have := HS4.out; simp at hm; omega))
  have HBZ5 := Lib.hid (HB4.out.keep HF5.out (by have := HG.out; have := HS4.out; simp; omega))
  refine (mget_any (pI (l, false)).1 (pI (pI (l, false)).2).1 (pI (pI (pI (l, false)).2).2).1 w5 F g w4.heap.size (pI (pI (pI (l, false)).2).2).2 HR5.out (by rw [← HV.out]; exact HB5.out) (by have := HG.out; have := HS4.out; omega) (fun hm => by have := HNF.out _ hm; have := HS4.out; omega)).mono ?_
  rintro e_ w6 ⟨y, rfl, hc, hln, hli, hb6, hr6, hf6⟩
  have HCY := Lib.hid hc
  have HLY := Lib.hid hln
  have HLI := Lib.hid hli
  have HB6 := Lib.hid hb6
  have HFG6 : Hid (Fr [g, w4.heap.size] w5 w6) := Lib.hid hf6
  have HBZ6 := Lib.hid (HBZ5.out.keep hf6 (by have := HG.out; have := HS4.out; simp; omega))
  have HFF6 : Hid (Fr [] w w6) := Lib.hid ((HF1.out.trans (((HF4.out.mono (T := [g, w4.heap.size]) (fun q hq _ => by simp at hq; simp [hq])).trans HF5.out (fun q hq _ => by simp at hq; simp [hq])).trans hf6 (fun q hq _ => hq)) (fun q hq hl => by have := HG.out; have := HS4.out; have := HF1.out.size; simp at hq; omega)))
  obtain ⟨R, bad⟩ : Ps := ⟨[], false⟩
  clear R bad
  obtain ⟨s6, hs6⟩ : ∃ s6, s6 = (pM (mz (pI (l, false)).1 (pI (pI (l, false)).2).1 (pI (pI (pI (l, false)).2).2).1).con (pI (pI (pI (l, false)).2).2).2).2 := ⟨_, rfl⟩
  rw [← hs6] at hr6
  rw [← hs6] at HPU
  clear hs6
  obtain ⟨R, bad⟩ := s6
  have HR6 := Lib.hid hr6
  clear hc hln hli hb6 hr6 hf6
  obtain ⟨m, hm_⟩ : ∃ m, m = (decide (1 ≤ (pI (l, false)).1 ∧ (pI (l, false)).1 ≤ 14)) := ⟨_, rfl⟩
  rw [← hm_]
  have HM := Lib.hid hm_
  clear hm_
  cases m with
  | false =>
    go_wp2_with (first
      | (refine wpList_builtg rfl 61 _ rfl _ _ HB0.out rfl ?_)
      | (refine wpList_store_blk rfl 61 _ _ rfl w.heap.size Z rfl rfl 61 Z HBZ6.out HZT.out rfl HZO.out ?_
         intro w9 hb9 hf9
         have HB9 := Lib.hid hb9
         have HF9 := Lib.hid hf9
         clear hb9 hf9))
    have HPF : Hid (pU l = ((mz 0 0 0).con, false)) := Lib.hid (by rw [HPU.out]; exact if_neg (by intro h; have := HM.out; have h2 := (decide_eq_false_iff_not.1 this.symm); exact h2 ⟨h.1, h.2.1⟩))
    refine bodyPost_ret (v := .tuple #[.agg Z, .bool false]) (results_row_tmp Tryz.results18 _ _ w.heap.size 61 Z _ _ (.bool false) rfl rfl HB9.out Tryz.underlying61 rfl HZT.out) rfl ⟨mz 0 0 0, by rw [HPF.out, HZ.out], by rw [HPF.out], mz_len 0 0 0, fun S0 _ => mz_li w9 S0 0 0 0, ?_⟩
    exact HFF6.out.trans HF9.out (fun q hq hl => by simp at hq; omega)
  | true =>
    go_wp2_with fail
    refine (ok_any w6 g F R bad HR6.out.rd).mono ?_
    rintro e_ w7 ⟨rfl, rfl⟩
    cases bad with
    | true =>
      go_wp2_with (first
        | (refine wpList_builtg rfl 61 _ rfl _ _ HB0.out rfl ?_)
        | (refine wpList_store_blk rfl 61 _ _ rfl w.heap.size Z rfl rfl 61 Z HBZ6.out HZT.out rfl HZO.out ?_
           intro w9 hb9 hf9
           have HB9 := Lib.hid hb9
           have HF9 := Lib.hid hf9
           clear hb9 hf9))
      have HPF : Hid (pU l = ((mz 0 0 0).con, false)) := Lib.hid (by rw [HPU.out]; exact if_neg (by intro h; exact absurd h.2.2.1 (by simp)))
      refine bodyPost_ret (v := .tuple #[.agg Z, .bool false]) (results_row_tmp Tryz.results18 _ _ w.heap.size 61 Z _ _ (.bool false) rfl rfl HB9.out Tryz.underlying61 rfl HZT.out) rfl ⟨mz 0 0 0, by rw [HPF.out, HZ.out], by rw [HPF.out], mz_len 0 0 0, fun S0 _ => mz_li w9 S0 0 0 0, ?_⟩
      exact HFF6.out.trans HF9.out (fun q hq hl => by simp at hq; omega)
    | false =>
      go_wp2_with fail
      refine (left_any w6 g F R false HR6.out.rd).mono ?_
      rintro e_ w7 ⟨rfl, rfl⟩
      cases R with
      | cons a R =>
        have hpos : (0 : Int) < ((a :: R).length : Int) := by simp
        go_wp2_with (first
          | (refine wpList_builtg rfl 61 _ rfl _ _ HB0.out rfl ?_)
          | (refine wpList_store_blk rfl 61 _ _ rfl w.heap.size Z rfl rfl 61 Z HBZ6.out HZT.out rfl HZO.out ?_
             intro w9 hb9 hf9
             have HB9 := Lib.hid hb9
             have HF9 := Lib.hid hf9
             clear hb9 hf9))
        have HPF : Hid (pU l = ((mz 0 0 0).con, false)) := Lib.hid (by rw [HPU.out]; exact if_neg (by intro h; exact absurd h.2.2.2 (by simp)))
        refine bodyPost_ret (v := .tuple #[.agg Z, .bool false]) (results_row_tmp Tryz.results18 _ _ w.heap.size 61 Z _ _ (.bool false) rfl rfl HB9.out Tryz.underlying61 rfl HZT.out) rfl ⟨mz 0 0 0, by rw [HPF.out, HZ.out], by rw [HPF.out], mz_len 0 0 0, fun S0 _ => mz_li w9 S0 0 0 0, ?_⟩
        exact HFF6.out.trans HF9.out (fun q hq hl => by simp at hq; omega)
      | nil =>
        obtain ⟨Y, hY⟩ : ∃ Y : List Value, Y = y.cells := ⟨_, rfl⟩
        have HYL : Hid (Y.length = 295) := Lib.hid (by rw [hY]; exact Wmg.lenz HLY.out)
        have HYT : Hid ((Tryz.prog.info? 61).map (·.size) = some Y.toArray.size) := Lib.hid (by rw [hY]; exact msg_size HLY.out)
        have HYO : Hid (Y.toArray.all (·.oneCell') = true) := Lib.hid (by rw [hY]; exact all_oneCell_toArray (Wmg.one _))
        have HYZ : Hid (Z.size = Y.toArray.size) := Lib.hid (by rw [hY, HZ.out, List.size_toArray, List.size_toArray, Wmg.lenz (mz_len _ _ _), Wmg.lenz HLY.out])
        have HYB : Hid (Blk w6 w4.heap.size 61 Y.toArray) := Lib.hid (by rw [hY]; exact HB6.out)
        have HYY := Lib.hid hY
        clear hY
        have hz0 : ¬ ((0 : Int) < ((([] : List UInt8).length : Nat) : Int)) := by simp
        go_wp2_with (first
          | (refine wpList_load_row rfl 61 _ rfl w4.heap.size rfl 61 Y.toArray _ _ HYB.out Tryz.underlying61 rfl HYT.out ?_)
          | (refine wpList_store_blk rfl 61 _ _ rfl w.heap.size Y.toArray rfl rfl 61 Z HBZ6.out HYT.out HYZ.out HYO.out ?_
             intro w9 hb9 hf9
             have HB9 := Lib.hid hb9
             have HF9 := Lib.hid hf9
             clear hb9 hf9))
        have HPF : Hid (pU l = ((pM (mz (pI (l, false)).1 (pI (pI (l, false)).2).1 (pI (pI (pI (l, false)).2).2).1).con (pI (pI (pI (l, false)).2).2).2).1, true)) := Lib.hid (by rw [HPU.out]; exact if_pos (by have h := of_decide_eq_true HM.out.symm; exact ⟨h.1, h.2, by first | rfl | trivial, by first | rfl | trivial⟩))
        refine bodyPost_ret (v := .tuple #[.agg Y.toArray, .bool true]) (results_row_tmp Tryz.results18 _ _ w.heap.size 61 Y.toArray _ _ (.bool true) rfl rfl HB9.out Tryz.underlying61 rfl HYT.out) rfl ⟨y, by rw [HPF.out, HYY.out], by rw [HPF.out]; exact HCY.out, HLY.out, fun S0 h0 => ?_, ?_⟩
        · exact (HLI.out (w.heap.size :: S0) (fun q hq => by rcases List.mem_cons.1 hq with rfl | hq; exact HBZ5.out.lt; exact Nat.lt_trans (h0 q hq) HBZ5.out.lt)).keep (HF9.out.mono (fun q hq _ => by simp at hq; simp [hq])) (fun q hq _ => by simp [hq])
        · exact HFF6.out.trans HF9.out (fun q hq hl => by simp at hq; omega)
end Go.Proofs.YtnpjihdhpoddgaaGreat

namespace Go.Proofs.YtnpjihdhpoddgaaGreat
open Go.RowKit
set_option maxRecDepth 100000
theorem pU_nil : (pU []).2 = false := by decide
theorem mz_ok (w : World) (S : List Nat) (q f t : Int) (hq : i64In q) (hf : i64In f) (ht : i64In t) : (mz q f t).Ok w S := by
  have b0 : mb0.Ok w S := ⟨zero_in, (show 0 < 18446744073709551616 by decide), Lst.nil _, Nat.zero_le _, fun h => absurd h (show ¬ 0 < 0 by decide), Lst.nil _, Nat.zero_le _, fun h => absurd h (show ¬ 0 < 0 by decide), Lst.nil _, Nat.zero_le _, fun h => absurd h (show ¬ 0 < 0 by decide)⟩
  exact ⟨hq, hf, ht, (mz_li w S 0 0 0).cm, (mz_li w S 0 0 0).st, ⟨(mz_li w S 0 0 0).cm, Lst.nil _, Nat.zero_le _, fun h => absurd h (show ¬ 0 < 0 by decide)⟩, (mz_li w S 0 0 0).ak, zero_in, zero_in, (show 0 < 18446744073709551616 by decide),
    ⟨zero_in, zero_in, (show 0 < 18446744073709551616 by decide), Lst.nil _, Nat.zero_le _, fun h => absurd h (show ¬ 0 < 0 by decide), zero_in, zero_in⟩, ⟨zero_in, zero_in, zero_in, zero_in, b0, zero_in, zero_in⟩, (mz_li w S 0 0 0).vt, zero_in, (mz_li w S 0 0 0).en, (mz_li w S 0 0 0).op, (mz_li w S 0 0 0).dn, (show 0 ≤ 260 by decide),
    ⟨zero_in, zero_in, b0, Lst.nil _, Nat.zero_le _, fun h => absurd h (show ¬ 0 < 0 by decide)⟩⟩
theorem built_mgk (q : Int) : Tryz.prog.built 61 [(0, .int .i64 q)] = some (mz q 0 0).cells.toArray := by kernel_rfl
theorem mz_bytes_pos (q f t : Int) : 0 < (mz q f t).bytes.length := by
  have h : 0 < (encI (mz q f t).q).length := by unfold encI; (first | exact enc_pos _ | (split <;> first | exact enc_pos _ | simp))
  simp only [Wmg.bytes, List.length_append]
  omega
set_option maxHeartbeats 4000000 in
theorem mwakes_any (w : World) : Calls Tryz.prog 13 #[] w fun e w' => e = .returned (.bool true) ∧ Fr [] w w' := by
  go_enter Tryz.func13, Tryz.ntmps13
  go_wp2_with fail
  refine (munpack_any none 0 0 [] w (By.nil w none) (by omega)).mono ?_
  rintro e_ w1 ⟨y, rfl, _, hln, _, hf1⟩
  rw [pU_nil]
  have HF1 := Lib.hid hf1
  have HLY := Lib.hid hln
  obtain ⟨Y, hY⟩ : ∃ Y : List Value, Y = y.cells := ⟨_, rfl⟩
  have HYT : Hid ((Tryz.prog.info? 61).map (·.size) = some Y.toArray.size) := Lib.hid (by rw [hY]; exact msg_size hln)
  have HYO : Hid (Y.toArray.all (·.oneCell') = true) := Lib.hid (by rw [hY]; exact all_oneCell_toArray (Wmg.one _))
  obtain ⟨Z, hZ⟩ : ∃ Z, Z = (mz 0 0 0).cells.toArray := ⟨_, rfl⟩
  have HYZ : Hid (Z.size = Y.toArray.size) := Lib.hid (by rw [hY, hZ, List.size_toArray, List.size_toArray, Wmg.lenz (mz_len _ _ _), Wmg.lenz hln])
  have HBN : Hid (Blk (w1.alloc (Obj.cells (mz 0 0 0).cells.toArray 61)) w1.heap.size 61 Z) := Lib.hid (by rw [hZ]; exact Blk.new _ _ _)
  rw [← hY]
  obtain ⟨C, hC⟩ : ∃ C : List Value, (mz 11 0 0).cells = C := ⟨_, rfl⟩
  have HBU : Hid (Tryz.prog.built 61 [(0, .int .i64 11)] = some C.toArray) := Lib.hid (by rw [← hC]; exact built_mgk 11)
  have HC := Lib.hid hC
  clear hf1 hln hY hZ hC
  go_wp2_with (first
    | (refine wpList_builtg rfl 61 _ rfl _ _ HBU.out rfl ?_)
    | (refine wpList_store_blk rfl 61 _ _ rfl w1.heap.size Y.toArray rfl rfl 61 Z HBN.out HYT.out HYZ.out HYO.out ?_
       intro w2 hb2 hf2
       have HF2 := Lib.hid ((((Fr.refl [w1.heap.size] w1).alloc _)).trans hf2 (fun x hx _ => hx))
       clear hb2 hf2))
  refine (mpack_any (mz 11 0 0) w2 (mz_ok w2 [] 11 0 0 (by unfold i64In; omega) zero_in zero_in) C HC.out).mono ?_
  intro e_ w3 hp
  unfold PackPost at hp
  rw [if_pos (show 1 ≤ (mz 11 0 0).q ∧ (mz 11 0 0).q ≤ 14 from (by decide : 1 ≤ (11 : Int) ∧ (11 : Int) ≤ 14))] at hp
  obtain ⟨A3, c3, rfl, hn3⟩ := hp
  have HF3 : Hid (Fr [] w w3) := Lib.hid ((HF1.out.trans (HF2.out) (fun q hq hl => by have := HF1.out.size; simp at hq; omega)).and hn3.2.1 (by simp))
  have hpos : (0 : Int) < (((mz 11 0 0).bytes.length : Nat) : Int) := by have := mz_bytes_pos 11 0 0; omega
  have hpos2 := mz_bytes_pos 11 0 0
  clear hn3
  generalize (mz 11 0 0).bytes.length = n at *
  go_wp2_with fail
  go_ret
  exact ⟨rfl, HF3.out⟩
end Go.Proofs.YtnpjihdhpoddgaaGreat

namespace Go.Proofs.YtnpjihdhpoddgaaGreat
open Go.RowKit
theorem u8_ne {a b : Nat} (ha : a < 256) (hb : b < 256) (h : UInt8.ofNat a = UInt8.ofNat b) : a = b := by
  have := congrArg UInt8.toNat h
  simp only [UInt8.toNat_ofNat'] at this
  omega
theorem enc_prefix : ∀ (a b : Nat) (s t : List UInt8), enc a ++ s = enc b ++ t → a = b ∧ s = t := by
  intro a
  induction a using Nat.strongRecOn with
  | _ a ih =>
    intro b s t h
    by_cases ha : a < 128 <;> by_cases hb : b < 128
    · rw [enc_small ha, enc_small hb] at h
      simp only [List.cons_append, List.nil_append, List.cons.injEq] at h
      exact ⟨u8_ne (by omega) (by omega) h.1, h.2⟩
    · rw [enc_small ha, enc_great hb] at h
      simp only [List.cons_append, List.nil_append, List.cons.injEq] at h
      have := u8_ne (by omega) (by omega) h.1
      omega
    · rw [enc_great ha, enc_small hb] at h
      simp only [List.cons_append, List.nil_append, List.cons.injEq] at h
      have := u8_ne (by omega) (by omega) h.1
      omega
    · rw [enc_great ha, enc_great hb] at h
      simp only [List.cons_append, List.cons.injEq] at h
      have h1 := u8_ne (by omega) (by omega) h.1
      obtain ⟨h2, h3⟩ := ih (a / 128) (by omega) (b / 128) s t h.2
      exact ⟨by omega, h3⟩
end Go.Proofs.YtnpjihdhpoddgaaGreat

namespace Go.Proofs.YtnpjihdhpoddgaaGreat
open Go.RowKit
set_option maxRecDepth 100000
def tn0 (f t e r : Int) (tm : Nat) : Wmg := {mz 5 f t with e := e, r := r, tm := tm}
def tn1 (f t i : Int) : Wmg := {mz 11 f t with i := i}
def tn2 (f t i s : Int) (tm : Nat) : Wmg := {mz 9 f t with i := i, en := ⟨0, s, mh0, tm⟩}
def tn3 (f t r p : Int) : Wmg := {mz 8 f t with vt := ⟨1, 0, r, p, mh0, 0, 0⟩}
theorem encI_pre {a b : Int} (ha : 0 ≤ a) (hb : 0 ≤ b) {s t : List UInt8} (h : encI a ++ s = encI b ++ t) : a = b ∧ s = t := by
  obtain ⟨h1, h2⟩ := enc_prefix a.toNat b.toNat s t h
  exact ⟨by omega, h2⟩
theorem enc_inj {a b : Nat} (h : enc a = enc b) : a = b := (enc_prefix a b [] [] (by simpa using h)).1
theorem mbytes_eq (x : Wmg) : x.bytes = encI x.q ++ (encI x.f ++ (encI x.t ++ x.body)) := by simp only [Wmg.bytes, List.append_assoc]
theorem tn0_inj {f t e r : Int} {tm : Nat} {f' t' e' r' : Int} {tm' : Nat} (hf : 0 ≤ f) (hf' : 0 ≤ f') (ht : 0 ≤ t) (ht' : 0 ≤ t') (he : 0 ≤ e) (he' : 0 ≤ e') (hr : 0 ≤ r) (hr' : 0 ≤ r') (h : (tn0 f t e r tm).bytes = (tn0 f' t' e' r' tm').bytes) : f = f' ∧ t = t' ∧ e = e' ∧ r = r' ∧ tm = tm' := by
  rw [mbytes_eq, mbytes_eq, Wmg.body_5 rfl, Wmg.body_5 rfl, List.append_assoc, List.append_assoc] at h
  obtain ⟨_, h⟩ := encI_pre (a := 5) (b := 5) (by decide) (by decide) h
  obtain ⟨h1, h⟩ := encI_pre (a := f) (b := f') hf hf' h
  obtain ⟨h2, h⟩ := encI_pre (a := t) (b := t') ht ht' h
  obtain ⟨h3, h⟩ := encI_pre (a := e) (b := e') he he' h
  obtain ⟨h4, h⟩ := encI_pre (a := r) (b := r') hr hr' h
  exact ⟨h1, h2, h3, h4, enc_inj h⟩
theorem tn1_inj {f t i : Int} {f' t' i' : Int} (hf : 0 ≤ f) (hf' : 0 ≤ f') (ht : 0 ≤ t) (ht' : 0 ≤ t') (hi : 0 ≤ i) (hi' : 0 ≤ i') (h : (tn1 f t i).bytes = (tn1 f' t' i').bytes) : f = f' ∧ t = t' ∧ i = i' := by
  rw [mbytes_eq, mbytes_eq, Wmg.body_11 rfl, Wmg.body_11 rfl] at h
  obtain ⟨_, h⟩ := encI_pre (a := 11) (b := 11) (by decide) (by decide) h
  obtain ⟨h1, h⟩ := encI_pre (a := f) (b := f') hf hf' h
  obtain ⟨h2, h⟩ := encI_pre (a := t) (b := t') ht ht' h
  obtain ⟨h3, h⟩ := encI_pre (a := i) (b := i') (s := []) (t := []) hi hi' (by rw [List.append_nil, List.append_nil]; exact h)
  exact ⟨h1, h2, h3⟩
theorem tn2_inj {f t i s : Int} {tm : Nat} {f' t' i' s' : Int} {tm' : Nat} (hf : 0 ≤ f) (hf' : 0 ≤ f') (ht : 0 ≤ t) (ht' : 0 ≤ t') (hi : 0 ≤ i) (hi' : 0 ≤ i') (hs : 0 ≤ s) (hs' : 0 ≤ s') (h : (tn2 f t i s tm).bytes = (tn2 f' t' i' s' tm').bytes) : f = f' ∧ t = t' ∧ i = i' ∧ s = s' ∧ tm = tm' := by
  rw [mbytes_eq, mbytes_eq, Wmg.body_9 rfl, Wmg.body_9 rfl] at h
  obtain ⟨_, h⟩ := encI_pre (a := 9) (b := 9) (by decide) (by decide) h
  obtain ⟨h1, h⟩ := encI_pre (a := f) (b := f') hf hf' h
  obtain ⟨h2, h⟩ := encI_pre (a := t) (b := t') ht ht' h
  obtain ⟨h3, h⟩ := encI_pre (a := i) (b := i') hi hi' h
  have h : encI 0 ++ encI s ++ mh0 ++ enc tm = encI 0 ++ encI s' ++ mh0 ++ enc tm' := h
  simp only [List.append_assoc] at h
  obtain ⟨_, h⟩ := encI_pre (a := 0) (b := 0) (by decide) (by decide) h
  obtain ⟨h4, h⟩ := encI_pre (a := s) (b := s') hs hs' h
  exact ⟨h1, h2, h3, h4, enc_inj (List.append_cancel_left h)⟩
theorem tn3_inj {f t r p : Int} {f' t' r' p' : Int} (hf : 0 ≤ f) (hf' : 0 ≤ f') (ht : 0 ≤ t) (ht' : 0 ≤ t') (hr : 0 ≤ r) (hr' : 0 ≤ r') (hp : 0 ≤ p) (hp' : 0 ≤ p') (h : (tn3 f t r p).bytes = (tn3 f' t' r' p').bytes) : f = f' ∧ t = t' ∧ r = r' ∧ p = p' := by
  rw [mbytes_eq, mbytes_eq, Wmg.body_8 rfl, Wmg.body_8 rfl] at h
  obtain ⟨_, h⟩ := encI_pre (a := 8) (b := 8) (by decide) (by decide) h
  obtain ⟨h1, h⟩ := encI_pre (a := f) (b := f') hf hf' h
  obtain ⟨h2, h⟩ := encI_pre (a := t) (b := t') ht ht' h
  have h : encI 1 ++ encI 0 ++ encI r ++ encI p ++ mh0 ++ sgL 0 0 = encI 1 ++ encI 0 ++ encI r' ++ encI p' ++ mh0 ++ sgL 0 0 := h
  simp only [List.append_assoc] at h
  obtain ⟨_, h⟩ := encI_pre (a := 1) (b := 1) (by decide) (by decide) h
  obtain ⟨_, h⟩ := encI_pre (a := 0) (b := 0) (by decide) (by decide) h
  obtain ⟨h3, h⟩ := encI_pre (a := r) (b := r') hr hr' h
  obtain ⟨h4, h⟩ := encI_pre (a := p) (b := p') hp hp' h
  exact ⟨h1, h2, h3, h4⟩
/-- what tiny makes -/
def tn (k : Int) (a : Wmg) : Wmg :=
  if k = 0 then tn0 (a.f % 3) (a.t % 3) (a.e % 3) (a.r % 3) (a.tm % 3)
  else if k = 1 then tn1 (a.f % 3) (a.t % 3) (a.i % 3)
  else if k = 2 then tn2 (a.f % 3) (a.t % 3) (a.i % 3) (a.en.s % 3) (a.en.t % 3)
  else tn3 (a.f % 3) (a.t % 3) (a.vt.r % 3) (a.vt.p % 3)
theorem tn_inj (k : Int) (a b : Wmg) (h : (tn k a).bytes = (tn k b).bytes) : tn k a = tn k b := by
  unfold tn at h ⊢
  by_cases h0 : k = 0
  · simp only [if_pos h0] at h ⊢
    obtain ⟨h1, h2, h3, h4, h5⟩ := tn0_inj (by omega) (by omega) (by omega) (by omega) (by omega) (by omega) (by omega) (by omega) h
    rw [h1, h2, h3, h4, h5]
  · simp only [if_neg h0] at h ⊢
    by_cases h0 : k = 1
    · simp only [if_pos h0] at h ⊢
      obtain ⟨h1, h2, h3⟩ := tn1_inj (by omega) (by omega) (by omega) (by omega) (by omega) (by omega) h
      rw [h1, h2, h3]
    · simp only [if_neg h0] at h ⊢
      by_cases h0 : k = 2
      · simp only [if_pos h0] at h ⊢
        obtain ⟨h1, h2, h3, h4, h5⟩ := tn2_inj (by omega) (by omega) (by omega) (by omega) (by omega) (by omega) (by omega) (by omega) h
        rw [h1, h2, h3, h4, h5]
      · simp only [if_neg h0] at h ⊢
        obtain ⟨h1, h2, h3, h4⟩ := tn3_inj (by omega) (by omega) (by omega) (by omega) (by omega) (by omega) (by omega) (by omega) h
        rw [h1, h2, h3, h4]
theorem tn_q (k : Int) (a : Wmg) : (tn k a).q = if k = 0 then 5 else if k = 1 then 11 else if k = 2 then 9 else 8 := by
  unfold tn
  by_cases h0 : k = 0
  · simp only [if_pos h0]; rfl
  · simp only [if_neg h0]
    by_cases h0 : k = 1
    · simp only [if_pos h0]; rfl
    · simp only [if_neg h0]
      by_cases h0 : k = 2
      · simp only [if_pos h0]; rfl
      · simp only [if_neg h0]; rfl
theorem tn_unlike (k k' : Int) (hk : 0 ≤ k ∧ k < 4) (hk' : 0 ≤ k' ∧ k' < 4) (hn : k ≠ k') (a b : Wmg) : (tn k a).bytes ≠ (tn k' b).bytes := by
  intro h
  rw [mbytes_eq, mbytes_eq] at h
  have e : (tn k a).q = (tn k' b).q := (encI_pre (by rw [tn_q]; split <;> (try decide); split <;> (try decide); split <;> decide) (by rw [tn_q]; split <;> (try decide); split <;> (try decide); split <;> decide) h).1
  rw [tn_q, tn_q] at e
  split at e <;> split at e <;> (try omega) <;> (try split at e) <;> (try omega) <;> (try split at e) <;> (try omega) <;> (try split at e) <;> omega
theorem tn_ok (k : Int) (a : Wmg) (w : World) (S : List Nat) : (tn k a).Ok w S := by
  have h := mz_ok w S 0 0 0 zero_in zero_in zero_in
  have b3 : ∀ z : Int, i64In (z % 3) := fun z => by unfold i64In; omega
  have n3 : ∀ z : Nat, z % 3 < 18446744073709551616 := fun z => by omega
  have o1 : i64In 1 := by unfold i64In; omega
  unfold tn
  split
  · exact ⟨(show i64In 5 by unfold i64In; omega), b3 _, b3 _, h.cm, h.st, h.ce, h.ak, b3 _, b3 _, n3 _, h.pr, h.po, h.vt, h.i, h.en, h.op, h.dn, h.rp, h.de⟩
  · split
    · exact ⟨(show i64In 11 by unfold i64In; omega), b3 _, b3 _, h.cm, h.st, h.ce, h.ak, h.e, h.r, h.tm, h.pr, h.po, h.vt, b3 _, h.en, h.op, h.dn, h.rp, h.de⟩
    · split
      · exact ⟨(show i64In 9 by unfold i64In; omega), b3 _, b3 _, h.cm, h.st, h.ce, h.ak, h.e, h.r, h.tm, h.pr, h.po, h.vt, b3 _, ⟨zero_in, b3 _, rfl, n3 _⟩, h.op, h.dn, h.rp, h.de⟩
      · exact ⟨(show i64In 8 by unfold i64In; omega), b3 _, b3 _, h.cm, h.st, h.ce, h.ak, h.e, h.r, h.tm, h.pr, h.po, ⟨o1, zero_in, b3 _, b3 _, rfl, zero_in, zero_in⟩, h.i, h.en, h.op, h.dn, h.rp, h.de⟩
end Go.Proofs.YtnpjihdhpoddgaaGreat

namespace Go.Proofs.YtnpjihdhpoddgaaGreat
open Go.RowKit
set_option maxRecDepth 100000
theorem Wmg.at_len {w : World} {g : Nat} {x : Wmg} (hr : w.rangeAt g 0 x.cells) (hx : x.Len) : x.At w g := by
  unfold Wmg.cells at hr
  have t0 := ra_tail hr (k := 1) (rfl)
  have t1 := ra_tail t0 (k := 1) (rfl)
  have t2 := ra_tail t1 (k := 1) (rfl)
  have t3 := ra_tail t2 (k := 37) (Wcm.len hx.cm)
  have t4 := ra_tail t3 (k := 38) (Wst.len hx.st)
  have t5 := ra_tail t4 (k := 38) (Wce.len hx.ce)
  have t6 := ra_tail t5 (k := 38) (Wst.len hx.ak)
  have t7 := ra_tail t6 (k := 1) (rfl)
  have t8 := ra_tail t7 (k := 1) (rfl)
  have t9 := ra_tail t8 (k := 1) (rfl)
  have t10 := ra_tail t9 (k := 6) (Wpr.len x.pr)
  have t11 := ra_tail t10 (k := 11) (Wpo.len x.po)
  have t12 := ra_tail t11 (k := 38) (Wvt.len hx.vt)
  have t13 := ra_tail t12 (k := 1) (rfl)
  have t14 := ra_tail t13 (k := 35) (Wen.len hx.en)
  have t15 := ra_tail t14 (k := 34) (Wop.len hx.op)
  have t16 := ra_tail t15 (k := 4) (Wdn.len x.dn)
  have t17 := ra_tail t16 (k := 1) (rfl)
  exact ⟨ra_head hr, ra_head t0, ra_head t1, ra_head t2, ra_head t3, ra_head t4, ra_head t5, ra_head t6, ra_head t7, ra_head t8, ra_head t9, ra_head t10, ra_head t11, ra_head t12, ra_head t13, ra_head t14, ra_head t15, ra_head t16, t17⟩
theorem Wmg.blk_q {w : World} {g : Nat} {t : TypeId} {x : Wmg} (v : Int) (hb : Blk w g t x.cells.toArray) : Blk (w.setCells g 0 [.int .i64 v]) g t ({x with q := v} : Wmg).cells.toArray :=
  Blk.mid_at [.int .i64 v] [.int .i64 x.q] [] ([.int .i64 x.f] ++ ([.int .i64 x.t] ++ (x.cm.cells ++ (x.st.cells ++ (x.ce.cells ++ (x.ak.cells ++ ([.int .i64 x.e] ++ ([.int .i64 x.r] ++ ([.int .u64 (x.tm : Int)] ++ (x.pr.cells ++ (x.po.cells ++ (x.vt.cells ++ ([.int .i64 x.i] ++ (x.en.cells ++ (x.op.cells ++ (x.dn.cells ++ ([.string ⟨x.rp.toArray⟩] ++ (x.de.cells)))))))))))))))))) 0 rfl rfl _ _ (by simp only [Wmg.cells, List.append_assoc, List.append_nil, List.nil_append]) (by simp only [Wmg.cells, List.append_assoc, List.append_nil, List.nil_append]) hb
theorem built_mg12 (f t : Int) : Tryz.prog.built 61 [(1, .int .i64 f), (2, .int .i64 t)] = some (mz 0 f t).cells.toArray := by kernel_rfl
theorem built_tv (r p : Int) : Tryz.prog.built 49 [(0, .int .i64 1), (2, .int .i64 r), (3, .int .i64 p)] = some (Wvt.cells ⟨1, 0, r, p, mh0, 0, 0⟩).toArray := by kernel_rfl
theorem built_tn (s : Int) : Tryz.prog.built 23 [(1, .int .i64 s)] = some #[.int .i64 0, .int .i64 s] := by kernel_rfl
theorem built_te (s : Int) (t : Nat) : Tryz.prog.built 51 [(0, .agg #[.int .i64 0, .int .i64 s]), (2, .int .u64 (t : Int))] = some (Wen.cells ⟨0, s, mh0, t⟩).toArray := by kernel_rfl
/-- what tiny asks of its argument -/
structure Wmg.Tin (a : Wmg) : Prop where
  len : a.Len
  f : i64In a.f
  t : i64In a.t
  e : i64In a.e
  r : i64In a.r
  i : i64In a.i
  vr : i64In a.vt.r
  vp : i64In a.vt.p
  es : i64In a.en.s
def mz00 : Array Value := (mz 0 0 0).cells.toArray
end Go.Proofs.YtnpjihdhpoddgaaGreat

namespace Go.Proofs.YtnpjihdhpoddgaaGreat
open Go.RowKit
set_option maxRecDepth 100000
theorem el_voteS : ElTy Tryz.prog 49 38 80 := ElTy.of (by kernel_rfl)
theorem copyVotes_any (A : Option Addr) (n c : Nat) (l : List Wvt) (w : World) (hr : Lst 38 Wvt.cells (fun _ v => v.Ok) w A n l) (hn : n ≤ 1000000) :
    Calls Tryz.prog 77 #[.slice A n c] w fun e w' => ∃ A' c', e = .returned (.slice A' n c') ∧ NewL 49 38 Wvt.cells w w' A' n c' l := by
  have HR := Lib.hid hr
  have HN := Lib.hid hn
  clear hr hn
  go_enter Tryz.func77, Tryz.ntmps77
  go_wp2_with (at_builtin; refine Stop.mk ?_)
  refine Stop.go ?_
  refine wpList_append_lst _ rfl (.const (.slice none 0 0)) (.tmp 3) _ rfl 49 38 80 Tryz.underlying57 el_voteS (by decide) (by decide) Wvt.one rfl A n c l rfl HR.out HN.out ?_
  intro A1 c1 w1 ho1
  have HO := Lib.hid ho1
  clear ho1
  go_wp2
  go_ret
  exact ⟨A1, c1, rfl, HO.out⟩
theorem cutVotes_any (A : Option Addr) (n c m : Nat) (l : List Wvt) (w : World) (hr : Lst 38 Wvt.cells (fun _ v => v.Ok) w A n l) (hn : n ≤ maxLen) (hc : n ≤ c) (hm : m ≤ 1000000) :
    Calls Tryz.prog 25 #[.slice A n c, .int .i64 m] w fun e w' => ∃ A' c', e = .returned (.slice A' (l.take m).length c') ∧ NewL 49 38 Wvt.cells w w' A' (l.take m).length c' (l.take m) := by
  unfold maxLen at hn
  have HR := Lib.hid hr
  have HL : Hid ((l.take m).length = min m n) := by rw [List.length_take, hr.1]; rfl
  clear hr
  by_cases hnm : n ≤ m
  · have hmin : Hid (min m n = n) := Nat.min_eq_right hnm
    go_enter Tryz.func25, Tryz.ntmps25
    go_wp2_with fail
    rw [show (min (n : Int) (m : Int)).toNat = n by omega]
    refine (copyVotes_any A n c (l.take m) w (by have h := HR.out.1; rw [List.take_of_length_le (by omega)]; exact HR.out) (by omega)).mono ?_
    rintro e w1 ⟨A1, c1, rfl, hN⟩
    have HN := Lib.hid hN
    clear hN
    go_wp2
    go_ret
    rw [HL.out, hmin.out]
    exact ⟨A1, c1, rfl, HN.out⟩
  · have hmin : Hid (min m n = m) := Nat.min_eq_left (by omega)
    have hmc : m ≤ c := by omega
    go_enter Tryz.func25, Tryz.ntmps25
    go_wp2_with fail
    rw [show (min (n : Int) (m : Int)).toNat = m by omega]
    refine (copyVotes_any A m c (l.take m) w (HR.out.take (by omega)) (by omega)).mono ?_
    rintro e w1 ⟨A1, c1, rfl, hN⟩
    have HN := Lib.hid hN
    clear hN
    go_wp2
    go_ret
    rw [HL.out, hmin.out]
    exact ⟨A1, c1, rfl, HN.out⟩

theorem Wmg.blk_pok {w : World} {g : Nat} {t : TypeId} {x : Wmg} (hx : x.Len) (v : Wba) (hb : Blk w g t x.cells.toArray) : Blk (w.setCells g 167 (v.cells)) g t ({x with po := {x.po with k := v}} : Wmg).cells.toArray :=
  Blk.mid_at (v.cells) (x.po.k.cells) ([.int .i64 x.q] ++ ([.int .i64 x.f] ++ ([.int .i64 x.t] ++ (x.cm.cells ++ (x.st.cells ++ (x.ce.cells ++ (x.ak.cells ++ ([.int .i64 x.e] ++ ([.int .i64 x.r] ++ ([.int .u64 (x.tm : Int)] ++ (x.pr.cells ++ ([.int .i64 x.po.e, .int .i64 x.po.r] ++ ([.int .i64 x.po.v] ++ ([.int .i64 x.po.p])))))))))))))) ([.int .i64 x.po.b, .int .i64 x.po.m] ++ (x.vt.cells ++ ([.int .i64 x.i] ++ (x.en.cells ++ (x.op.cells ++ (x.dn.cells ++ ([.string ⟨x.rp.toArray⟩] ++ (x.de.cells)))))))) 167 (by simp only [List.length_append, List.length_cons, List.length_nil, Wcm.len hx.cm, Wst.len hx.st, Wce.len hx.ce, Wst.len hx.ak, Wpr.len x.pr, Wpo.len x.po, Wvt.len hx.vt, Wen.len hx.en, Wop.len hx.op, Wdn.len x.dn, (show x.de.k.cells.length = 5 from rfl), (show x.po.k.cells.length = 5 from rfl)]) rfl _ _ (by simp only [Wmg.cells, Wpo.cells, Wop.cells, Wdc.cells, List.append_assoc, List.append_nil, List.cons_append, List.nil_append]) (by simp only [Wmg.cells, Wpo.cells, Wop.cells, Wdc.cells, List.append_assoc, List.append_nil, List.cons_append, List.nil_append]) hb
theorem Wmg.blk_pov {w : World} {g : Nat} {t : TypeId} {x : Wmg} (hx : x.Len) (v : Int) (hb : Blk w g t x.cells.toArray) : Blk (w.setCells g 165 ([.int .i64 v])) g t ({x with po := {x.po with v := v}} : Wmg).cells.toArray :=
  Blk.mid_at ([.int .i64 v]) ([.int .i64 x.po.v]) ([.int .i64 x.q] ++ ([.int .i64 x.f] ++ ([.int .i64 x.t] ++ (x.cm.cells ++ (x.st.cells ++ (x.ce.cells ++ (x.ak.cells ++ ([.int .i64 x.e] ++ ([.int .i64 x.r] ++ ([.int .u64 (x.tm : Int)] ++ (x.pr.cells ++ ([.int .i64 x.po.e, .int .i64 x.po.r])))))))))))) ([.int .i64 x.po.p] ++ (x.po.k.cells ++ ([.int .i64 x.po.b, .int .i64 x.po.m] ++ (x.vt.cells ++ ([.int .i64 x.i] ++ (x.en.cells ++ (x.op.cells ++ (x.dn.cells ++ ([.string ⟨x.rp.toArray⟩] ++ (x.de.cells)))))))))) 165 (by simp only [List.length_append, List.length_cons, List.length_nil, Wcm.len hx.cm, Wst.len hx.st, Wce.len hx.ce, Wst.len hx.ak, Wpr.len x.pr, Wpo.len x.po, Wvt.len hx.vt, Wen.len hx.en, Wop.len hx.op, Wdn.len x.dn, (show x.de.k.cells.length = 5 from rfl), (show x.po.k.cells.length = 5 from rfl)]) rfl _ _ (by simp only [Wmg.cells, Wpo.cells, Wop.cells, Wdc.cells, List.append_assoc, List.append_nil, List.cons_append, List.nil_append]) (by simp only [Wmg.cells, Wpo.cells, Wop.cells, Wdc.cells, List.append_assoc, List.append_nil, List.cons_append, List.nil_append]) hb
theorem Wmg.blk_dek {w : World} {g : Nat} {t : TypeId} {x : Wmg} (hx : x.Len) (v : Wba) (hb : Blk w g t x.cells.toArray) : Blk (w.setCells g 289 (v.cells)) g t ({x with de := {x.de with k := v}} : Wmg).cells.toArray :=
  Blk.mid_at (v.cells) (x.de.k.cells) ([.int .i64 x.q] ++ ([.int .i64 x.f] ++ ([.int .i64 x.t] ++ (x.cm.cells ++ (x.st.cells ++ (x.ce.cells ++ (x.ak.cells ++ ([.int .i64 x.e] ++ ([.int .i64 x.r] ++ ([.int .u64 (x.tm : Int)] ++ (x.pr.cells ++ (x.po.cells ++ (x.vt.cells ++ ([.int .i64 x.i] ++ (x.en.cells ++ (x.op.cells ++ (x.dn.cells ++ ([.string ⟨x.rp.toArray⟩] ++ ([.int .i64 x.de.e, .int .i64 x.de.r]))))))))))))))))))) ([.slice x.de.A x.de.n x.de.d]) 289 (by simp only [List.length_append, List.length_cons, List.length_nil, Wcm.len hx.cm, Wst.len hx.st, Wce.len hx.ce, Wst.len hx.ak, Wpr.len x.pr, Wpo.len x.po, Wvt.len hx.vt, Wen.len hx.en, Wop.len hx.op, Wdn.len x.dn, (show x.de.k.cells.length = 5 from rfl), (show x.po.k.cells.length = 5 from rfl)]) rfl _ _ (by simp only [Wmg.cells, Wpo.cells, Wop.cells, Wdc.cells, List.append_assoc, List.append_nil, List.cons_append, List.nil_append]) (by simp only [Wmg.cells, Wpo.cells, Wop.cells, Wdc.cells, List.append_assoc, List.append_nil, List.cons_append, List.nil_append]) hb
theorem Wmg.blk_dev {w : World} {g : Nat} {t : TypeId} {x : Wmg} (hx : x.Len) (A : Option Addr) (n d : Nat) (l : List Wvt) (hb : Blk w g t x.cells.toArray) : Blk (w.setCells g 294 ([.slice A n d])) g t ({x with de := {x.de with A := A, n := n, d := d, l := l}} : Wmg).cells.toArray :=
  Blk.mid_at ([.slice A n d]) ([.slice x.de.A x.de.n x.de.d]) ([.int .i64 x.q] ++ ([.int .i64 x.f] ++ ([.int .i64 x.t] ++ (x.cm.cells ++ (x.st.cells ++ (x.ce.cells ++ (x.ak.cells ++ ([.int .i64 x.e] ++ ([.int .i64 x.r] ++ ([.int .u64 (x.tm : Int)] ++ (x.pr.cells ++ (x.po.cells ++ (x.vt.cells ++ ([.int .i64 x.i] ++ (x.en.cells ++ (x.op.cells ++ (x.dn.cells ++ ([.string ⟨x.rp.toArray⟩] ++ ([.int .i64 x.de.e, .int .i64 x.de.r] ++ (x.de.k.cells)))))))))))))))))))) ([]) 294 (by simp only [List.length_append, List.length_cons, List.length_nil, Wcm.len hx.cm, Wst.len hx.st, Wce.len hx.ce, Wst.len hx.ak, Wpr.len x.pr, Wpo.len x.po, Wvt.len hx.vt, Wen.len hx.en, Wop.len hx.op, Wdn.len x.dn, (show x.de.k.cells.length = 5 from rfl), (show x.po.k.cells.length = 5 from rfl)]) rfl _ _ (by simp only [Wmg.cells, Wpo.cells, Wop.cells, Wdc.cells, List.append_assoc, List.append_nil, List.cons_append, List.nil_append]) (by simp only [Wmg.cells, Wpo.cells, Wop.cells, Wdc.cells, List.append_assoc, List.append_nil, List.cons_append, List.nil_append]) hb
theorem Wmg.blk_opp {w : World} {g : Nat} {t : TypeId} {x : Wmg} (hx : x.Len) (A : Option Addr) (n d : Nat) (l : List UInt8) (hb : Blk w g t x.cells.toArray) : Blk (w.setCells g 249 ([.slice A n d])) g t ({x with op := {x.op with A := A, n := n, d := d, p := l}} : Wmg).cells.toArray :=
  Blk.mid_at ([.slice A n d]) ([.slice x.op.A x.op.n x.op.d]) ([.int .i64 x.q] ++ ([.int .i64 x.f] ++ ([.int .i64 x.t] ++ (x.cm.cells ++ (x.st.cells ++ (x.ce.cells ++ (x.ak.cells ++ ([.int .i64 x.e] ++ ([.int .i64 x.r] ++ ([.int .u64 (x.tm : Int)] ++ (x.pr.cells ++ (x.po.cells ++ (x.vt.cells ++ ([.int .i64 x.i] ++ (x.en.cells ++ ([.int .i64 x.op.i])))))))))))))))) (x.op.h.map by8 ++ (x.dn.cells ++ ([.string ⟨x.rp.toArray⟩] ++ (x.de.cells)))) 249 (by simp only [List.length_append, List.length_cons, List.length_nil, Wcm.len hx.cm, Wst.len hx.st, Wce.len hx.ce, Wst.len hx.ak, Wpr.len x.pr, Wpo.len x.po, Wvt.len hx.vt, Wen.len hx.en, Wop.len hx.op, Wdn.len x.dn, (show x.de.k.cells.length = 5 from rfl), (show x.po.k.cells.length = 5 from rfl)]) rfl _ _ (by simp only [Wmg.cells, Wpo.cells, Wop.cells, Wdc.cells, List.append_assoc, List.append_nil, List.cons_append, List.nil_append]) (by simp only [Wmg.cells, Wpo.cells, Wop.cells, Wdc.cells, List.append_assoc, List.append_nil, List.cons_append, List.nil_append]) hb
theorem Wba.val_cells (y : Wba) : y.val = .agg y.cells.toArray := rfl
set_option maxHeartbeats 8000000 in
theorem msmall_any (x : Wmg) (w : World) (hx : x.In w) (C : List Value) (hC : x.cells = C) :
    Calls Tryz.prog 7 #[.agg C.toArray] w fun e w' => ∃ y : Wmg, e = .returned (.agg y.cells.toArray) ∧ (∀ S0 : List Nat, (∀ k ∈ S0, k < w.heap.size) → y.Ok w' S0) ∧ Fr [] w w' := by
  obtain ⟨wa, hwa⟩ : ∃ wa, wa = (w.alloc (Obj.cells C.toArray 61)).alloc (Obj.cells mz00 61) := ⟨_, rfl⟩
  have hf0 : Fr [] w wa := by rw [hwa]; exact ((Fr.refl [] w).alloc _).alloc _
  have hb0 : Blk wa w.heap.size 61 x.cells.toArray := by rw [hwa, hC]; exact blk_alloc (Blk.new _ _ _)
  have hb1 : Blk wa (w.heap.size + 1) 61 mz00 := by
    have := Blk.new (w.alloc (Obj.cells C.toArray 61)) 61 mz00
    rw [hwa]
    simpa using this
  have hlen : x.Len := ⟨hx.cm.h, hx.st.h, hx.ce.k.h, hx.ak.h, hx.vt.h, hx.en.h, hx.op.h⟩
  have hat : x.At wa w.heap.size := Wmg.at_len hb0.range hlen
  have HRC : Hid (wa.rangeAt w.heap.size 78 x.ce.cells) := Lib.hid hat.ce
  have HRP : Hid (wa.rangeAt w.heap.size 157 x.pr.cells) := Lib.hid hat.pr
  have HRK : Hid (wa.rangeAt w.heap.size 167 x.po.k.cells) := Lib.hid (ra_head (ra_tail (k := 4) hat.po rfl))
  have HRD : Hid (wa.rangeAt w.heap.size 289 x.de.k.cells) := Lib.hid (ra_head (ra_tail (k := 2) hat.de rfl))
  have HB0 := Lib.hid hb0
  have HB1 := Lib.hid hb1
  have HF0 := Lib.hid hf0
  have HWA := Lib.hid hwa
  have HX := Lib.hid hx
  have HL := Lib.hid hlen
  have HSZ : Hid (wa.heap.size = w.heap.size + 2) := Lib.hid (by rw [hwa]; simp)
  have HLC : Hid (x.ce.cells.length = 38) := Lib.hid (Wce.len hx.ce.k.h)
  clear hwa hf0 hb0 hb1 hlen hat hx hC
  go_enter Tryz.func7, Tryz.ntmps7
  go_upto_region 1 with (fail)
  change Code.wp _ _ _ _ ((w.alloc (Obj.cells C.toArray 61)).alloc (Obj.cells mz00 61))
  rw [← HWA.out]
  refine wp_region_till 15 (Fr [w.heap.size] wa) (Fr [] wa) (by kernel_rfl) (Fr.drew (Fr.refl _ wa)) (Fr.drew (Fr.refl _ wa)) (fun hA hB => ?_)
  have HFD : Hid (Fr [] wa wa.drew) := Lib.hid (Fr.drew (Fr.refl [] wa))
  generalize wa.drew = wd at *
  have HLP : Hid (x.pr.cells.length = 6) := Lib.hid (Wpr.len _)
  have HLK : Hid (x.po.k.cells.length = 5) := Lib.hid rfl
  have HLD : Hid (x.de.k.cells.length = 5) := Lib.hid rfl
  have hcc := certCut_any x.ce.k HX.out.ce.k x.ce.A x.ce.n x.ce.d x.ce.l
  rw [show x.ce.k.cells ++ [Value.slice x.ce.A x.ce.n x.ce.d] = x.ce.cells from rfl] at hcc
  have hpc := promiseCut_any x.pr
  obtain ⟨CL, hCL⟩ : ∃ CL, x.ce.cells = CL := ⟨_, rfl⟩
  obtain ⟨PL, hPL⟩ : ∃ PL, x.pr.cells = PL := ⟨_, rfl⟩
  obtain ⟨KL, hKL⟩ : ∃ KL, x.po.k.cells = KL := ⟨_, rfl⟩
  obtain ⟨DL, hDL⟩ : ∃ DL, x.de.k.cells = DL := ⟨_, rfl⟩
  rw [hCL] at HRC HLC hcc
  rw [hPL] at HRP HLP hpc
  rw [hKL] at HRK HLK
  rw [hDL] at HRD HLD
  have HKL := Lib.hid hKL
  have HDL := Lib.hid hDL
  clear hCL hPL hKL hDL
  refine till_run (i := 0) (v := ?_) rfl (by kernel_rfl) (by rfl) (fun _ _ _ h => h) hA hB (fun w1 hw1 => ?_) ?_
  rotate_left 1
  · skip
    go_simp
    (try (first | with_reducible rfl | (apply And.intro <;> rfl)))
  simp only [Act.put, List.setIfInBounds_toArray, List.set_cons_zero, List.set_cons_succ]
  refine till_row (i := 1) rfl (by kernel_rfl) (by rfl) _ _ rfl _ _ rfl _ (fun w1 hw1 => hw1.range (HRC.out) (by first | (simp; done) | exact HNS.out | exact HNW.out | (intro hm; have hlt := HSB.out _ hm; (try dsimp only at hlt); omega))) (row_crt.of HLC.out) (fun _ _ _ h => h) hA hB ?_
  simp only [Act.put, List.setIfInBounds_toArray, List.set_cons_zero, List.set_cons_succ]
  refine till_run (i := 3) (v := ?_) rfl (by kernel_rfl) (by rfl) (fun _ _ _ h => h) hA hB (fun w1 hw1 => ?_) ?_
  rotate_left 1
  · skip
    go_simp
    (try (first | with_reducible rfl | (apply And.intro <;> rfl)))
  simp only [Act.put, List.setIfInBounds_toArray, List.set_cons_zero, List.set_cons_succ]
  refine till_row (i := 4) rfl (by kernel_rfl) (by rfl) _ _ rfl _ _ rfl _ (fun w1 hw1 => hw1.range (HRP.out) (by first | (simp; done) | exact HNS.out | exact HNW.out | (intro hm; have hlt := HSB.out _ hm; (try dsimp only at hlt); omega))) (row_prm.of HLP.out) (fun _ _ _ h => h) hA hB ?_
  simp only [Act.put, List.setIfInBounds_toArray, List.set_cons_zero, List.set_cons_succ]
  refine till_run (i := 6) (v := ?_) rfl (by kernel_rfl) (by rfl) (fun _ _ _ h => h) hA hB (fun w1 hw1 => ?_) ?_
  rotate_left 1
  · skip
    go_simp
    (try (first | with_reducible rfl | (apply And.intro <;> rfl)))
  simp only [Act.put, List.setIfInBounds_toArray, List.set_cons_zero, List.set_cons_succ]
  refine till_run (i := 7) (v := ?_) rfl (by kernel_rfl) (by rfl) (fun _ _ _ h => h) hA hB (fun w1 hw1 => ?_) ?_
  rotate_left 1
  · skip
    go_simp
    (try (first | with_reducible rfl | (apply And.intro <;> rfl)))
  simp only [Act.put, List.setIfInBounds_toArray, List.set_cons_zero, List.set_cons_succ]
  refine till_row (i := 8) rfl (by kernel_rfl) (by rfl) _ _ rfl _ _ rfl _ (fun w1 hw1 => hw1.range (HRK.out) (by first | (simp; done) | exact HNS.out | exact HNW.out | (intro hm; have hlt := HSB.out _ hm; (try dsimp only at hlt); omega))) (row_bat.of HLK.out) (fun _ _ _ h => h) hA hB ?_
  simp only [Act.put, List.setIfInBounds_toArray, List.set_cons_zero, List.set_cons_succ]
  refine till_run (i := 10) (v := ?_) rfl (by kernel_rfl) (by rfl) (fun _ _ _ h => h) hA hB (fun w1 hw1 => ?_) ?_
  rotate_left 1
  · skip
    go_simp
    (try (first | with_reducible rfl | (apply And.intro <;> rfl)))
  simp only [Act.put, List.setIfInBounds_toArray, List.set_cons_zero, List.set_cons_succ]
  refine till_run (i := 11) (v := ?_) rfl (by kernel_rfl) (by rfl) (fun _ _ _ h => h) hA hB (fun w1 hw1 => ?_) ?_
  rotate_left 1
  · skip
    go_simp
    (try (first | with_reducible rfl | (apply And.intro <;> rfl)))
  simp only [Act.put, List.setIfInBounds_toArray, List.set_cons_zero, List.set_cons_succ]
  refine till_row (i := 12) rfl (by kernel_rfl) (by rfl) _ _ rfl _ _ rfl _ (fun w1 hw1 => hw1.range (HRD.out) (by first | (simp; done) | exact HNS.out | exact HNW.out | (intro hm; have hlt := HSB.out _ hm; (try dsimp only at hlt); omega))) (row_bat.of HLD.out) (fun _ _ _ h => h) hA hB ?_
  simp only [Act.put, List.setIfInBounds_toArray, List.set_cons_zero, List.set_cons_succ]
  refine till_call (i := 2) (f := ?_) (args := ?_) rfl (by kernel_rfl) (by rfl) ?_ ?_
  rotate_left 2
  · go_simp
    (try (first | with_reducible rfl | (apply And.intro <;> rfl)))
  refine (hcc wd (HX.out.ce.l.keep' (HF0.out.and HFD.out (by simp)) (by simp) (fun _ _ h => h)) HX.out.ce.n HX.out.ce.d).mono ?_
  clear hcc
  rintro e w1 ⟨A1, d1, rfl, hN⟩
  have hm5 : (x.ce.l.take 5).length ≤ 5 := List.length_take_le _ _
  have hok : ∀ S0 : List Nat, (∀ q ∈ S0, q < wa.heap.size) → (⟨x.ce.k, A1, (x.ce.l.take 5).length, d1, x.ce.l.take 5⟩ : Wce).Ok w1 S0 := fun S0 h0 => ⟨HX.out.ce.k, Lst.of_own (ok := fun (_ : World) (v : Wst) => v.Ok) hN.1 rfl (fun u hu => HX.out.ce.l.2.1 u (List.mem_of_mem_take hu)), hm5, fun hp a ha hin => by
    have ha : A1 = some a := ha
    have h1 := hN.2.2 a.block (by rw [ha]; simp [bk])
    have h2 := h0 _ hin
    have h3 := HFD.out.size
    omega⟩
  have hcl : x.ce.k.cells ++ [Value.slice A1 (x.ce.l.take 5).length d1] = (⟨x.ce.k, A1, (x.ce.l.take 5).length, d1, x.ce.l.take 5⟩ : Wce).cells := rfl
  rw [hcl]
  have hck : (⟨x.ce.k, A1, (x.ce.l.take 5).length, d1, x.ce.l.take 5⟩ : Wce).k.h.length = 32 := HL.out.ce
  generalize (⟨x.ce.k, A1, (x.ce.l.take 5).length, d1, x.ce.l.take 5⟩ : Wce) = c at *
  have HCK := Lib.hid hck
  have hf1 := hN.2.1
  have HC := Lib.hid hok
  have HF1 := Lib.hid hf1
  refine ⟨_, rfl, ⟨hA.go hf1 (by simp), hB.and hf1 (by simp)⟩, fun hB => ?_⟩
  replace hA := hA.go hf1 (by simp)
  clear hN hm5 hok hcl hf1 hck
  simp only [Act.put, List.setIfInBounds_toArray, List.set_cons_zero, List.set_cons_succ]
  refine till_run (i := 14) (v := ?_) rfl (by kernel_rfl) (by rfl) (fun _ _ _ h => h) hA hB (fun w1 hw1 => ?_) ?_
  rotate_left 1
  · skip
    go_simp
    (try (first | with_reducible rfl | (apply And.intro <;> rfl)))
  simp only [Act.put, List.setIfInBounds_toArray, List.set_cons_zero, List.set_cons_succ]
  refine till_call (i := 5) (f := ?_) (args := ?_) rfl (by kernel_rfl) (by rfl) ?_ ?_
  rotate_left 2
  · go_simp
    (try (first | with_reducible rfl | (apply And.intro <;> rfl)))
  refine (hpc w1 HX.out.pr.r HX.out.pr.e HX.out.pr.t HX.out.pr.b HX.out.pr.m (HX.out.pr.l.keep' ((HF0.out.and HFD.out (by simp)).and HF1.out (by simp)) (by simp) (fun _ _ h => h.keep ((HF0.out.and HFD.out (by simp)).and HF1.out (by simp)))) HX.out.pr.n).mono ?_
  clear hpc
  rintro e w2 ⟨A2, d2, ys, rfl, hok, -, hf2⟩
  generalize hq : (⟨x.pr.r, x.pr.e, x.pr.t, A2, (x.pr.l.take 3).length, d2, ys, x.pr.b, x.pr.m⟩ : Wpr) = q at *
  clear hq
  have HQ : Hid (∀ S0 : List Nat, (∀ q ∈ S0, q < wa.heap.size) → q.Ok w2 S0) := Lib.hid (fun S0 h0 => hok S0 (fun k hk => Nat.lt_of_lt_of_le (h0 k hk) (HFD.out.and HF1.out (by simp)).size))
  have HF2 := Lib.hid hf2
  have HC : Hid (∀ S0 : List Nat, (∀ q ∈ S0, q < wa.heap.size) → c.Ok w2 S0) := Lib.hid (fun S0 h0 => (HC.out S0 h0).keep (hf2.mono (by simp)) (fun k hk _ => hk))
  refine ⟨_, rfl, ⟨hA.go hf2 (by simp), hB.and hf2 (by simp)⟩, fun hB => ?_⟩
  replace hA := hA.go hf2 (by simp)
  clear hok hf2
  simp only [Act.put, List.setIfInBounds_toArray, List.set_cons_zero, List.set_cons_succ]
  have HFX : Hid (Fr [] wa w2) := Lib.hid ((HFD.out.and HF1.out (by simp)).and HF2.out (by simp))
  clear HF1 HF2 HFD
  refine till_call (i := 9) (f := ?_) (args := ?_) rfl (by kernel_rfl) (by rfl) ?_ ?_
  rotate_left 2
  · go_simp
    (try (first | with_reducible rfl | (apply And.intro <;> rfl)))
  refine (batchCut_any x.po.k w2 (HX.out.po.k.keep (HF0.out.and HFX.out (by simp))) KL HKL.out).mono ?_
  rintro e w3 ⟨y1, rfl, hyk, hf3⟩
  have HY1 : Hid (∀ S0 : List Nat, (∀ q ∈ S0, q < wa.heap.size) → y1.Ok w3 S0) := Lib.hid (fun S0 h0 => hyk S0 (fun k hk => Nat.lt_of_lt_of_le (h0 k hk) HFX.out.size))
  have HC : Hid (∀ S0 : List Nat, (∀ q ∈ S0, q < wa.heap.size) → c.Ok w3 S0) := Lib.hid (fun S0 h0 => (HC.out S0 h0).keep (hf3.mono (by simp)) (fun k hk _ => hk))
  have HQ : Hid (∀ S0 : List Nat, (∀ q ∈ S0, q < wa.heap.size) → q.Ok w3 S0) := Lib.hid (fun S0 h0 => (HQ.out S0 h0).keep (hf3.mono (by simp)) (fun k hk _ => hk))
  have HFX : Hid (Fr [] wa w3) := Lib.hid (HFX.out.and hf3 (by simp))
  refine ⟨_, rfl, ⟨hA.go hf3 (by simp), hB.and hf3 (by simp)⟩, fun hB => ?_⟩
  replace hA := hA.go hf3 (by simp)
  clear hyk hf3
  unfold Wba.val
  simp only [Act.put, List.setIfInBounds_toArray, List.set_cons_zero, List.set_cons_succ]
  refine till_call (i := 13) (f := ?_) (args := ?_) rfl (by kernel_rfl) (by rfl) ?_ ?_
  rotate_left 2
  · go_simp
    (try (first | with_reducible rfl | (apply And.intro <;> rfl)))
  refine (batchCut_any x.de.k w3 (HX.out.de.k.keep (HF0.out.and HFX.out (by simp))) DL HDL.out).mono ?_
  rintro e w4 ⟨y2, rfl, hyk, hf4⟩
  have HY2 : Hid (∀ S0 : List Nat, (∀ q ∈ S0, q < wa.heap.size) → y2.Ok w4 S0) := Lib.hid (fun S0 h0 => hyk S0 (fun k hk => Nat.lt_of_lt_of_le (h0 k hk) HFX.out.size))
  have HY1 : Hid (∀ S0 : List Nat, (∀ q ∈ S0, q < wa.heap.size) → y1.Ok w4 S0) := Lib.hid (fun S0 h0 => (HY1.out S0 h0).keep (hf4.mono (by simp)) (fun k hk _ => hk))
  have HC : Hid (∀ S0 : List Nat, (∀ q ∈ S0, q < wa.heap.size) → c.Ok w4 S0) := Lib.hid (fun S0 h0 => (HC.out S0 h0).keep (hf4.mono (by simp)) (fun k hk _ => hk))
  have HQ : Hid (∀ S0 : List Nat, (∀ q ∈ S0, q < wa.heap.size) → q.Ok w4 S0) := Lib.hid (fun S0 h0 => (HQ.out S0 h0).keep (hf4.mono (by simp)) (fun k hk _ => hk))
  have HFX : Hid (Fr [] wa w4) := Lib.hid (HFX.out.and hf4 (by simp))
  refine ⟨_, rfl, ⟨hA.go hf4 (by simp), hB.and hf4 (by simp)⟩, fun hB => ?_⟩
  replace hA := hA.go hf4 (by simp)
  clear hyk hf4
  unfold Wba.val
  simp only [Act.put, List.setIfInBounds_toArray, List.set_cons_zero, List.set_cons_succ]
  have HB0 := Lib.hid (HB0.out.keep HFX.out (by simp))
  have HB1 := Lib.hid (HB1.out.keep HFX.out (by simp))
  clear HRC HRP HRK HRD HLC HLP HLK HLD HKL HDL
  have hA4 : Fr [w.heap.size] w4 w4 := Fr.refl _ _
  have HS4 := Lib.hid hA4
  clear hA4
  have HLe : Hid (∀ z : Wmg, z.Len → z.cells.length = 295) := Lib.hid (fun z hz => Wmg.lenz hz)
  refine till_step (i := 15) rfl (by kernel_rfl) (by kernel_rfl) (by rfl) (fun K hK => ?_)
  refine wp_store_mid 35 _ _ rfl w.heap.size 78 c.cells.toArray rfl rfl (Blk.thereM HB0.out 78 _ (by rw [List.size_toArray, List.size_toArray, HLe.out _ HL.out, Wce.len HCK.out]; decide)) (by rw [List.size_toArray, Wce.len HCK.out]; kernel_rfl) (all_oneCell_toArray (Wce.one _)) ?_
  refine hK.out _ _ (Fr.setCells (fun _ => by simp) c.cells 78 _ hA) (fun hA => ?_)
  clear hK K
  have HBa : Hid (Blk (w4.setCells w.heap.size 78 c.cells) w.heap.size 61 ({x with ce := c} : Wmg).cells.toArray) := Lib.hid (Wmg.blk_ce HL.out c (Wce.len HCK.out) HB0.out)
  have HLa : Hid (Wmg.Len {x with ce := c}) := Lib.hid ⟨HL.out.cm, HL.out.st, HCK.out, HL.out.ak, HL.out.vt, HL.out.en, HL.out.op⟩
  have HS4 : Hid (Fr [w.heap.size] w4 (w4.setCells w.heap.size 78 c.cells)) := Lib.hid (Fr.setCells (fun _ => by simp) c.cells 78 _ HS4.out)
  generalize w4.setCells w.heap.size 78 c.cells = u1 at *
  simp only [Act.put, List.setIfInBounds_toArray, List.set_cons_zero, List.set_cons_succ]
  refine till_step (i := 16) rfl (by kernel_rfl) (by kernel_rfl) (by rfl) (fun K hK => ?_)
  refine wp_run (v := ?_) (w' := ?_) ?_ ?_
  rotate_left 2
  · go_simp
    (try (first | with_reducible rfl | (apply And.intro <;> rfl)))
  refine hK.out _ _ hA (fun hA => ?_)
  clear hK K
  simp only [Act.put, List.setIfInBounds_toArray, List.set_cons_zero, List.set_cons_succ]
  refine till_step (i := 17) rfl (by kernel_rfl) (by kernel_rfl) (by rfl) (fun K hK => ?_)
  refine wp_store_mid 40 _ _ rfl w.heap.size 157 q.cells.toArray rfl rfl (Blk.thereM HBa.out 157 _ (by rw [List.size_toArray, List.size_toArray, HLe.out _ HLa.out, Wpr.len q]; decide)) (by kernel_rfl) (all_oneCell_toArray (Wpr.one _)) ?_
  refine hK.out _ _ (Fr.setCells (fun _ => by simp) q.cells 157 _ hA) (fun hA => ?_)
  clear hK K
  have HBb : Hid (Blk (u1.setCells w.heap.size 157 q.cells) w.heap.size 61 ({x with ce := c, pr := q} : Wmg).cells.toArray) := Lib.hid (Wmg.blk_pr HLa.out q (Wpr.len q) HBa.out)
  have HLb : Hid (Wmg.Len {x with ce := c, pr := q}) := Lib.hid ⟨HL.out.cm, HL.out.st, HCK.out, HL.out.ak, HL.out.vt, HL.out.en, HL.out.op⟩
  have HS4 : Hid (Fr [w.heap.size] w4 (u1.setCells w.heap.size 157 q.cells)) := Lib.hid (Fr.setCells (fun _ => by simp) q.cells 157 _ HS4.out)
  generalize u1.setCells w.heap.size 157 q.cells = u2 at *
  simp only [Act.put, List.setIfInBounds_toArray, List.set_cons_zero, List.set_cons_succ]
  refine till_step (i := 18) rfl (by kernel_rfl) (by kernel_rfl) (by rfl) (fun K hK => ?_)
  refine wp_run (v := ?_) (w' := ?_) ?_ ?_
  rotate_left 2
  · go_simp
    (try (first | with_reducible rfl | (apply And.intro <;> rfl)))
  refine hK.out _ _ hA (fun hA => ?_)
  clear hK K
  simp only [Act.put, List.setIfInBounds_toArray, List.set_cons_zero, List.set_cons_succ]
  refine till_step (i := 19) rfl (by kernel_rfl) (by kernel_rfl) (by rfl) (fun K hK => ?_)
  refine wp_run (v := ?_) (w' := ?_) ?_ ?_
  rotate_left 2
  · go_simp
    (try (first | with_reducible rfl | (apply And.intro <;> rfl)))
  refine hK.out _ _ hA (fun hA => ?_)
  clear hK K
  simp only [Act.put, List.setIfInBounds_toArray, List.set_cons_zero, List.set_cons_succ]
  refine till_step (i := 20) rfl (by kernel_rfl) (by kernel_rfl) (by rfl) (fun K hK => ?_)
  refine wp_store_mid 45 _ _ rfl w.heap.size 167 y1.cells.toArray rfl rfl (Blk.thereM HBb.out 167 _ (by rw [List.size_toArray, List.size_toArray, HLe.out _ HLb.out, show y1.cells.length = 5 from rfl]; decide)) (by kernel_rfl) (all_oneCell_toArray (Wba.one _)) ?_
  refine hK.out _ _ (Fr.setCells (fun _ => by simp) y1.cells 167 _ hA) (fun hA => ?_)
  clear hK K
  have HBc : Hid (Blk (u2.setCells w.heap.size 167 y1.cells) w.heap.size 61 ({x with ce := c, pr := q, po := {x.po with k := y1}} : Wmg).cells.toArray) := Lib.hid (Wmg.blk_pok HLb.out y1 HBb.out)
  have HLc : Hid (Wmg.Len {x with ce := c, pr := q, po := {x.po with k := y1}}) := Lib.hid ⟨HL.out.cm, HL.out.st, HCK.out, HL.out.ak, HL.out.vt, HL.out.en, HL.out.op⟩
  have HS4 : Hid (Fr [w.heap.size] w4 (u2.setCells w.heap.size 167 y1.cells)) := Lib.hid (Fr.setCells (fun _ => by simp) y1.cells 167 _ HS4.out)
  generalize u2.setCells w.heap.size 167 y1.cells = u3 at *
  simp only [Act.put, List.setIfInBounds_toArray, List.set_cons_zero, List.set_cons_succ]
  refine till_step (i := 21) rfl (by kernel_rfl) (by kernel_rfl) (by rfl) (fun K hK => ?_)
  refine wp_run (v := ?_) (w' := ?_) ?_ ?_
  rotate_left 2
  · go_simp
    (try (first | with_reducible rfl | (apply And.intro <;> rfl)))
  refine hK.out _ _ hA (fun hA => ?_)
  clear hK K
  simp only [Act.put, List.setIfInBounds_toArray, List.set_cons_zero, List.set_cons_succ]
  refine till_step (i := 22) rfl (by kernel_rfl) (by kernel_rfl) (by rfl) (fun K hK => ?_)
  refine wp_run (v := ?_) (w' := ?_) ?_ ?_
  rotate_left 2
  · go_simp
    (try (first | with_reducible rfl | (apply And.intro <;> rfl)))
  refine hK.out _ _ hA (fun hA => ?_)
  clear hK K
  simp only [Act.put, List.setIfInBounds_toArray, List.set_cons_zero, List.set_cons_succ]
  refine till_step (i := 23) rfl (by kernel_rfl) (by kernel_rfl) (by rfl) (fun K hK => ?_)
  refine wp_store_mid 45 _ _ rfl w.heap.size 289 y2.cells.toArray rfl rfl (Blk.thereM HBc.out 289 _ (by rw [List.size_toArray, List.size_toArray, HLe.out _ HLc.out, show y2.cells.length = 5 from rfl]; decide)) (by kernel_rfl) (all_oneCell_toArray (Wba.one _)) ?_
  refine hK.out _ _ (Fr.setCells (fun _ => by simp) y2.cells 289 _ hA) (fun hA => ?_)
  clear hK K
  have HBd : Hid (Blk (u3.setCells w.heap.size 289 y2.cells) w.heap.size 61 ({x with ce := c, pr := q, po := {x.po with k := y1}, de := {x.de with k := y2}} : Wmg).cells.toArray) := Lib.hid (Wmg.blk_dek HLc.out y2 HBc.out)
  have HLd : Hid (Wmg.Len {x with ce := c, pr := q, po := {x.po with k := y1}, de := {x.de with k := y2}}) := Lib.hid ⟨HL.out.cm, HL.out.st, HCK.out, HL.out.ak, HL.out.vt, HL.out.en, HL.out.op⟩
  have HS4 : Hid (Fr [w.heap.size] w4 (u3.setCells w.heap.size 289 y2.cells)) := Lib.hid (Fr.setCells (fun _ => by simp) y2.cells 289 _ HS4.out)
  generalize u3.setCells w.heap.size 289 y2.cells = u4 at *
  simp only [Act.put, List.setIfInBounds_toArray, List.set_cons_zero, List.set_cons_succ]
  refine till_done (by kernel_rfl) ?_ _
  have HF4 : Hid (Fr [] w w4) := Lib.hid (HF0.out.and HFX.out (by simp))
  have HB1 := Lib.hid (HB1.out.keep HS4.out (by simp))
  have hop := (Wmg.at_len HBd.out.range HLd.out).op
  have ho1 : u4.cell? ⟨w.heap.size, 249, none⟩ = some (.slice x.op.A x.op.n x.op.d) := by have h := hop 1 _ rfl; simpa using h
  clear hop
  have HSI : Hid ((Tryz.prog.info? 52).map (·.size) = some 1) := Lib.hid (by kernel_rfl)
  have HSV : Hid ((Tryz.prog.info? 57).map (·.size) = some 1) := Lib.hid (by kernel_rfl)
  have HSS : Hid ((Tryz.prog.info? 9).map (·.size) = some 1) := Lib.hid (by kernel_rfl)
  have HSN : Hid ((Tryz.prog.info? 3).map (·.size) = some 1) := Lib.hid (by kernel_rfl)
  have HLT : Hid (∀ y : Wmg, y.Len → ∀ k < 295, k < y.cells.toArray.size) := Lib.hid (fun y hy k hk => by rw [List.size_toArray, Wmg.lenz hy]; exact hk)
  go_wp2_with fail
  have HF04 : Hid (Fr [] w u4) := Lib.hid (HF4.out.go HS4.out (by simp))
  refine (cut_any x.op.A x.op.n x.op.d 260 x.op.p u4 (HX.out.op.p.keep HF04.out (by simp)) HX.out.op.n HX.out.op.d (by omega)).mono ?_
  rintro e_ w5 ⟨A5, c5, rfl, hn5⟩
  have h260 : (x.op.p.take 260).length ≤ 260 := List.length_take_le _ _
  obtain ⟨p5, hp5⟩ : ∃ p5, p5 = x.op.p.take 260 := ⟨_, rfl⟩
  rw [← hp5] at hn5 h260 ⊢
  clear hp5 ho1
  have HN5 := Lib.hid hn5
  have H260 := Lib.hid h260
  have HBd := Lib.hid (HBd.out.keep hn5.2.1 (by simp))
  have HB1 := Lib.hid (HB1.out.keep hn5.2.1 (by simp))
  have HS5 : Hid (Fr [w.heap.size] w4 w5) := Lib.hid (HS4.out.trans (hn5.2.1.mono (by simp)) (fun k hk _ => hk))
  clear hn5 h260
  have HBe := Lib.hid (Wmg.blk_opp HLd.out A5 p5.length c5 p5 HBd.out)
  have HLe5 : Hid (Wmg.Len {x with ce := c, pr := q, po := {x.po with k := y1}, de := {x.de with k := y2}, op := {x.op with A := A5, n := p5.length, d := c5, p := p5}}) := Lib.hid ⟨HL.out.cm, HL.out.st, HCK.out, HL.out.ak, HL.out.vt, HL.out.en, HL.out.op⟩
  go_upto_region 3 with (refine wpList_store_at rfl 52 _ _ rfl w.heap.size 249 (.slice A5 p5.length c5) rfl rfl rfl 61 _ HBd.out (HLT.out _ HLd.out 249 (by omega)) HSI.out ?_)
  change Code.wp _ _ _ _ (w5.setCells w.heap.size 249 [.slice A5 p5.length c5])
  have HBe : Hid (Blk (w5.setCells w.heap.size 249 [.slice A5 p5.length c5]) w.heap.size 61 ({x with ce := c, pr := q, po := {x.po with k := y1}, de := {x.de with k := y2}, op := {x.op with A := A5, n := p5.length, d := c5, p := p5}} : Wmg).cells.toArray) := Lib.hid HBe.out
  have HFS : Hid (Fr [w.heap.size] w5 (w5.setCells w.heap.size 249 [.slice A5 p5.length c5])) := Lib.hid (Fr.setCells (fun _ => by simp) _ 249 _ (Fr.refl _ _))
  generalize w5.setCells w.heap.size 249 [.slice A5 p5.length c5] = u5 at *
  have HB1 := Lib.hid (HB1.out.keep HFS.out (by simp))
  have HS5 : Hid (Fr [w.heap.size] w4 u5) := Lib.hid (HS5.out.trans HFS.out (fun k hk _ => hk))
  have HF05 : Hid (Fr [] w u5) := Lib.hid (HF4.out.go HS5.out (by simp))
  have hde := (Wmg.at_len HBe.out.range HLe5.out).de
  have ho2 : u5.cell? ⟨w.heap.size, 294, none⟩ = some (.slice x.de.A x.de.n x.de.d) := by have h := ra_tail (k := 5) (ra_tail (k := 2) hde rfl) rfl 0 _ rfl; simpa using h
  clear hde
  go_wp2_with fail
  refine (cutVotes_any x.de.A x.de.n x.de.d 5 x.de.l u5 (HX.out.de.l.keep' HF05.out (by simp) (fun _ _ h => h)) HX.out.de.n HX.out.de.d (by omega)).mono ?_
  rintro e_ w6 ⟨A6, c6, rfl, hn6⟩
  have h5 : (x.de.l.take 5).length ≤ 5 := List.length_take_le _ _
  have hv5 : ∀ v ∈ x.de.l.take 5, (Wvt.cells v).length = 38 ∧ v.Ok := fun v hv => HX.out.de.l.2.1 v (List.mem_of_mem_take hv)
  obtain ⟨l6, hl6⟩ : ∃ l6, l6 = x.de.l.take 5 := ⟨_, rfl⟩
  rw [← hl6] at hn6 h5 hv5 ⊢
  clear hl6 ho2
  have HN6 := Lib.hid hn6
  have H5 := Lib.hid h5
  have HV5 := Lib.hid hv5
  have HBe := Lib.hid (HBe.out.keep hn6.2.1 (by simp))
  have HB1 := Lib.hid (HB1.out.keep hn6.2.1 (by simp))
  have HS6 : Hid (Fr [w.heap.size] w4 w6) := Lib.hid (HS5.out.trans (hn6.2.1.mono (by simp)) (fun k hk _ => hk))
  clear hn6 h5 hv5
  have HBf := Lib.hid (Wmg.blk_dev HLe5.out A6 l6.length c6 l6 HBe.out)
  have HLe6 : Hid (Wmg.Len {x with ce := c, pr := q, po := {x.po with k := y1}, de := {x.de with k := y2, A := A6, n := l6.length, d := c6, l := l6}, op := {x.op with A := A5, n := p5.length, d := c5, p := p5}}) := Lib.hid ⟨HL.out.cm, HL.out.st, HCK.out, HL.out.ak, HL.out.vt, HL.out.en, HL.out.op⟩
  go_upto_region 4 with (refine wpList_store_at rfl 57 _ _ rfl w.heap.size 294 (.slice A6 l6.length c6) rfl rfl rfl 61 _ HBe.out (HLT.out _ HLe5.out 294 (by omega)) HSV.out ?_)
  change Code.wp _ _ _ _ (w6.setCells w.heap.size 294 [.slice A6 l6.length c6])
  have HBf : Hid (Blk (w6.setCells w.heap.size 294 [.slice A6 l6.length c6]) w.heap.size 61 ({x with ce := c, pr := q, po := {x.po with k := y1}, de := {x.de with k := y2, A := A6, n := l6.length, d := c6, l := l6}, op := {x.op with A := A5, n := p5.length, d := c5, p := p5}} : Wmg).cells.toArray) := Lib.hid HBf.out
  have HFS6 : Hid (Fr [w.heap.size] w6 (w6.setCells w.heap.size 294 [.slice A6 l6.length c6])) := Lib.hid (Fr.setCells (fun _ => by simp) _ 294 _ (Fr.refl _ _))
  generalize w6.setCells w.heap.size 294 [.slice A6 l6.length c6] = u6 at *
  have HB1 := Lib.hid (HB1.out.keep HFS6.out (by simp))
  have HS6 : Hid (Fr [w.heap.size] w4 u6) := Lib.hid (HS6.out.trans HFS6.out (fun k hk _ => hk))
  have hrp : u6.cell? ⟨w.heap.size, 286, none⟩ = some (.string ⟨x.rp.toArray⟩) := by have h := (Wmg.at_len HBf.out.range HLe6.out).rp 0 _ rfl; simpa using h
  have hpv : u6.cell? ⟨w.heap.size, 165, none⟩ = some (.int .i64 x.po.v) := by have h := (Wmg.at_len HBf.out.range HLe6.out).po 2 _ rfl; simpa using h
  have HT5 : Hid (Fr [w.heap.size] w5 u6) := Lib.hid ((HFS.out.trans (HN6.out.2.1.mono (by simp)) (fun k hk _ => hk)).trans HFS6.out (fun k hk _ => hk))
  have HU6 : Hid (Fr [w.heap.size] w6 u6) := Lib.hid HFS6.out
  have HG5 : Hid (w.heap.size + 2 ≤ u5.heap.size) := Lib.hid (by have h1 := HSZ.out; have h2 := HFX.out.size; have h3 := (HS4.out.trans (HN5.out.2.1.mono (by simp)) (fun k hk _ => hk)).size; have h4 := HFS.out.size; omega)
  clear hpv
  by_cases hrl : 260 < x.rp.length
  case pos =>
    have hd : decide ((260 : Int) < (x.rp.length : Int)) = true := by simp; omega
    have HRPE : Hid (({data := x.rp.toArray} : ByteArray).extract 0 260 = ⟨(x.rp.take 260).toArray⟩) := Lib.hid (by apply ByteArray.ext; simp [ByteArray.data_extract])
    have HBg := Lib.hid (Wmg.blk_rp HLe6.out (x.rp.take 260) HBf.out)
    go_upto_region 6 with (refine wpList_store_at rfl 9 _ _ rfl w.heap.size 286 (.string ⟨(x.rp.take 260).toArray⟩) rfl (by rw [← HRPE.out]; rfl) rfl 61 _ HBf.out (HLT.out _ HLe6.out 286 (by omega)) HSS.out ?_)
    change Code.wp _ _ _ _ (u6.setCells w.heap.size 286 [.string ⟨(x.rp.take 260).toArray⟩])
    have HFg : Hid (Fr [w.heap.size] u6 (u6.setCells w.heap.size 286 [.string ⟨(x.rp.take 260).toArray⟩])) := Lib.hid (Fr.setCells (fun _ => by simp) _ 286 _ (Fr.refl _ _))
    have HBg : Hid (Blk (u6.setCells w.heap.size 286 [.string ⟨(x.rp.take 260).toArray⟩]) w.heap.size 61 ({x with ce := c, pr := q, po := {x.po with k := y1}, de := {x.de with k := y2, A := A6, n := l6.length, d := c6, l := l6}, op := {x.op with A := A5, n := p5.length, d := c5, p := p5}, rp := x.rp.take 260} : Wmg).cells.toArray) := Lib.hid HBg.out
    have HLg : Hid (Wmg.Len {x with ce := c, pr := q, po := {x.po with k := y1}, de := {x.de with k := y2, A := A6, n := l6.length, d := c6, l := l6}, op := {x.op with A := A5, n := p5.length, d := c5, p := p5}, rp := x.rp.take 260}) := Lib.hid ⟨HL.out.cm, HL.out.st, HCK.out, HL.out.ak, HL.out.vt, HL.out.en, HL.out.op⟩
    generalize u6.setCells w.heap.size 286 [.string ⟨(x.rp.take 260).toArray⟩] = u7 at *
    have HB1 := Lib.hid (HB1.out.keep HFg.out (by simp))
    have HS7 : Hid (Fr [w.heap.size] w4 u7) := Lib.hid (HS6.out.trans HFg.out (fun k hk _ => hk))
    have HT5r : Hid (Fr [w.heap.size] w5 u7) := Lib.hid (HT5.out.trans HFg.out (fun k hk _ => hk))
    have HU6r : Hid (Fr [w.heap.size] w6 u7) := Lib.hid (HU6.out.trans HFg.out (fun k hk _ => hk))
    clear hrp hd
    have hpv : u7.cell? ⟨w.heap.size, 165, none⟩ = some (.int .i64 x.po.v) := by have h := (Wmg.at_len HBg.out.range HLg.out).po 2 _ rfl; simpa using h
    by_cases hv : x.po.v = 9223372036854775807
    case pos =>
      have hve : (x.po.v == 9223372036854775807) = true := by simp [hv]
      have HBp := Lib.hid (Wmg.blk_pov HLg.out 0 HBg.out)
      go_upto_region 8 with (refine wpList_store_at rfl 3 _ _ rfl w.heap.size 165 (.int .i64 0) rfl rfl rfl 61 _ HBg.out (HLT.out _ HLg.out 165 (by omega)) HSN.out ?_)
      change Code.wp _ _ _ _ (u7.setCells w.heap.size 165 [.int .i64 0])
      have HFp : Hid (Fr [w.heap.size] u7 (u7.setCells w.heap.size 165 [.int .i64 0])) := Lib.hid (Fr.setCells (fun _ => by simp) _ 165 _ (Fr.refl _ _))
      have HBp : Hid (Blk (u7.setCells w.heap.size 165 [.int .i64 0]) w.heap.size 61 ({x with ce := c, pr := q, po := {x.po with k := y1, v := 0}, de := {x.de with k := y2, A := A6, n := l6.length, d := c6, l := l6}, op := {x.op with A := A5, n := p5.length, d := c5, p := p5}, rp := x.rp.take 260} : Wmg).cells.toArray) := Lib.hid HBp.out
      generalize u7.setCells w.heap.size 165 [.int .i64 0] = up at *
      have HB1 := Lib.hid (HB1.out.keep HFp.out (by simp))
      have HSp : Hid (Fr [w.heap.size] w4 up) := Lib.hid (HS7.out.trans HFp.out (fun k hk _ => hk))
      have HT5rp : Hid (Fr [w.heap.size] w5 up) := Lib.hid (HT5r.out.trans HFp.out (fun k hk _ => hk))
      have HU6rp : Hid (Fr [w.heap.size] w6 up) := Lib.hid (HU6r.out.trans HFp.out (fun k hk _ => hk))
      clear hpv hve hv
      have HLz : Hid (Wmg.Len {x with ce := c, pr := q, po := {x.po with k := y1, v := 0}, de := {x.de with k := y2, A := A6, n := l6.length, d := c6, l := l6}, op := {x.op with A := A5, n := p5.length, d := c5, p := p5}, rp := x.rp.take 260}) := Lib.hid ⟨HL.out.cm, HL.out.st, HCK.out, HL.out.ak, HL.out.vt, HL.out.en, HL.out.op⟩
      obtain ⟨E, hE⟩ : ∃ E, E = ({x with ce := c, pr := q, po := {x.po with k := y1, v := 0}, de := {x.de with k := y2, A := A6, n := l6.length, d := c6, l := l6}, op := {x.op with A := A5, n := p5.length, d := c5, p := p5}, rp := x.rp.take 260} : Wmg).cells := ⟨_, rfl⟩
      have HEL : Hid (E.length = 295) := Lib.hid (by rw [hE]; exact Wmg.lenz HLz.out)
      have HEO : Hid (E.toArray.all (·.oneCell') = true) := Lib.hid (by rw [hE]; exact all_oneCell_toArray (Wmg.one _))
      have HES : Hid ((Tryz.prog.info? 61).map (·.size) = some E.toArray.size) := Lib.hid (by rw [List.size_toArray, HEL.out]; kernel_rfl)
      have HEM : Hid (mz00.size = E.toArray.size) := Lib.hid (by unfold mz00; rw [List.size_toArray, List.size_toArray, HEL.out, Wmg.lenz (mz_len _ _ _)])
      have HER : Hid (up.rangeAt w.heap.size 0 E) := Lib.hid (by rw [hE]; exact HBp.out.range)
      have HB9 := Lib.hid HB1.out
      go_wp2_with (first | (refine wpList_load_mid rfl 61 _ rfl w.heap.size 0 rfl E _ HER.out Tryz.underlying61 rfl (row_msg.of HEL.out).2 ?_) | (refine wpList_store_blk rfl 61 _ _ rfl (w.heap.size + 1) E.toArray rfl rfl 61 mz00 HB9.out HES.out HEM.out HEO.out ?_; intro w9 hb9 hf9))
      refine bodyPost_ret (v := .agg E.toArray) (results_cell_row Tryz.results7 _ _ (w.heap.size + 1) 61 E.toArray _ _ rfl hb9 Tryz.underlying61 rfl HES.out) rfl ?_
      have HS9 : Fr [w.heap.size, w.heap.size + 1] w4 w9 := (HSp.out.mono (by intro k hk _; simp at hk; simp [hk])).trans hf9 (fun k hk _ => by simp at hk; simp [hk])
      have HT9 : Fr [w.heap.size, w.heap.size + 1] w5 w9 := (HT5rp.out.mono (by intro k hk _; simp at hk; simp [hk])).trans hf9 (fun k hk _ => by simp at hk; simp [hk])
      have HU9 : Fr [w.heap.size, w.heap.size + 1] w6 w9 := (HU6rp.out.mono (by intro k hk _; simp at hk; simp [hk])).trans hf9 (fun k hk _ => by simp at hk; simp [hk])
      refine ⟨{x with ce := c, pr := q, po := {x.po with k := y1, v := 0}, de := {x.de with k := y2, A := A6, n := l6.length, d := c6, l := l6}, op := {x.op with A := A5, n := p5.length, d := c5, p := p5}, rp := x.rp.take 260}, by rw [hE], fun S0 h0 => ?_, HF4.out.go HS9 (by simp)⟩
      have hall : ∀ k ∈ w.heap.size :: (w.heap.size + 1) :: S0, k < wa.heap.size := by
        intro k hk
        have h1 := HSZ.out
        rcases List.mem_cons.1 hk with rfl | hk
        · omega
        · rcases List.mem_cons.1 hk with rfl | hk
          · omega
          · have := h0 k hk; omega
      have hm : Fr (w.heap.size :: (w.heap.size + 1) :: S0) w4 w9 := HS9.mono (by intro k hk _; simp at hk; rcases hk with rfl | rfl <;> simp)
      have hin : ∀ k ∈ S0, k < w4.heap.size → k ∈ w.heap.size :: (w.heap.size + 1) :: S0 := fun k hk _ => by simp [hk]
      have hn5 : ∀ k ∈ bk A5, w.heap.size + 2 ≤ k := fun k hk => by have h1 := HN5.out.2.2 k hk; have h2 := HFX.out.size; have h3 := HSZ.out; have h4 := HS4.out.size; omega
      have hn6 : ∀ k ∈ bk A6, w.heap.size + 2 ≤ k := fun k hk => by have h1 := HN6.out.2.2 k hk; have h2 := HG5.out; omega
      exact ⟨HX.out.q, HX.out.f, HX.out.t, HX.out.cm, HX.out.st, (HC.out _ hall).keep hm hin, HX.out.ak, HX.out.e, HX.out.r, HX.out.tm, (HQ.out _ hall).keep hm hin,
        ⟨HX.out.po.e, HX.out.po.r, (show i64In 0 from zero_in), HX.out.po.p, (HY1.out _ hall).keep hm hin, HX.out.po.b, HX.out.po.m⟩, HX.out.vt, HX.out.i, HX.out.en,
        ⟨HX.out.op.i, HN5.out.by.keep HT9 (fun ad ha hm => by have := hn5 ad.block (by rw [ha]; simp [bk]); simp at hm; omega), H260.out, fun k hk hm => by have h1 := hn5 k hk; have h2 := h0 k hm; omega, fun k hk => Nat.lt_of_lt_of_le (HN5.out.lt k hk) HT9.size, HX.out.op.h, HN5.out.cap⟩, HX.out.dn, (by rw [List.length_take]; omega),
        ⟨HX.out.de.e, HX.out.de.r, (HY2.out _ hall).keep hm hin, (Lst.of_own (ok := fun (_ : World) (v : Wvt) => v.Ok) HN6.out.1 rfl (fun u hu => HV5.out u hu)).keep' HU9 (fun hp a ha hm => by have h1 := hn6 a.block (by rw [ha]; simp [bk]); simp at hm; omega) (fun _ _ h => h), H5.out, fun hp a ha hm => by have ha : A6 = some a := ha; have h1 := hn6 a.block (by rw [ha]; simp [bk]); have h2 := h0 _ hm; omega⟩⟩
    case neg =>
      have hve : (x.po.v == 9223372036854775807) = false := by simp [hv]
      go_upto_region 8 with (fail)
      clear hpv hve hv
      have HLz : Hid (Wmg.Len {x with ce := c, pr := q, po := {x.po with k := y1}, de := {x.de with k := y2, A := A6, n := l6.length, d := c6, l := l6}, op := {x.op with A := A5, n := p5.length, d := c5, p := p5}, rp := x.rp.take 260}) := Lib.hid ⟨HL.out.cm, HL.out.st, HCK.out, HL.out.ak, HL.out.vt, HL.out.en, HL.out.op⟩
      obtain ⟨E, hE⟩ : ∃ E, E = ({x with ce := c, pr := q, po := {x.po with k := y1}, de := {x.de with k := y2, A := A6, n := l6.length, d := c6, l := l6}, op := {x.op with A := A5, n := p5.length, d := c5, p := p5}, rp := x.rp.take 260} : Wmg).cells := ⟨_, rfl⟩
      have HEL : Hid (E.length = 295) := Lib.hid (by rw [hE]; exact Wmg.lenz HLz.out)
      have HEO : Hid (E.toArray.all (·.oneCell') = true) := Lib.hid (by rw [hE]; exact all_oneCell_toArray (Wmg.one _))
      have HES : Hid ((Tryz.prog.info? 61).map (·.size) = some E.toArray.size) := Lib.hid (by rw [List.size_toArray, HEL.out]; kernel_rfl)
      have HEM : Hid (mz00.size = E.toArray.size) := Lib.hid (by unfold mz00; rw [List.size_toArray, List.size_toArray, HEL.out, Wmg.lenz (mz_len _ _ _)])
      have HER : Hid (u7.rangeAt w.heap.size 0 E) := Lib.hid (by rw [hE]; exact HBg.out.range)
      have HB9 := Lib.hid HB1.out
      go_wp2_with (first | (refine wpList_load_mid rfl 61 _ rfl w.heap.size 0 rfl E _ HER.out Tryz.underlying61 rfl (row_msg.of HEL.out).2 ?_) | (refine wpList_store_blk rfl 61 _ _ rfl (w.heap.size + 1) E.toArray rfl rfl 61 mz00 HB9.out HES.out HEM.out HEO.out ?_; intro w9 hb9 hf9))
      refine bodyPost_ret (v := .agg E.toArray) (results_cell_row Tryz.results7 _ _ (w.heap.size + 1) 61 E.toArray _ _ rfl hb9 Tryz.underlying61 rfl HES.out) rfl ?_
      have HS9 : Fr [w.heap.size, w.heap.size + 1] w4 w9 := (HS7.out.mono (by intro k hk _; simp at hk; simp [hk])).trans hf9 (fun k hk _ => by simp at hk; simp [hk])
      have HT9 : Fr [w.heap.size, w.heap.size + 1] w5 w9 := (HT5r.out.mono (by intro k hk _; simp at hk; simp [hk])).trans hf9 (fun k hk _ => by simp at hk; simp [hk])
      have HU9 : Fr [w.heap.size, w.heap.size + 1] w6 w9 := (HU6r.out.mono (by intro k hk _; simp at hk; simp [hk])).trans hf9 (fun k hk _ => by simp at hk; simp [hk])
      refine ⟨{x with ce := c, pr := q, po := {x.po with k := y1}, de := {x.de with k := y2, A := A6, n := l6.length, d := c6, l := l6}, op := {x.op with A := A5, n := p5.length, d := c5, p := p5}, rp := x.rp.take 260}, by rw [hE], fun S0 h0 => ?_, HF4.out.go HS9 (by simp)⟩
      have hall : ∀ k ∈ w.heap.size :: (w.heap.size + 1) :: S0, k < wa.heap.size := by
        intro k hk
        have h1 := HSZ.out
        rcases List.mem_cons.1 hk with rfl | hk
        · omega
        · rcases List.mem_cons.1 hk with rfl | hk
          · omega
          · have := h0 k hk; omega
      have hm : Fr (w.heap.size :: (w.heap.size + 1) :: S0) w4 w9 := HS9.mono (by intro k hk _; simp at hk; rcases hk with rfl | rfl <;> simp)
      have hin : ∀ k ∈ S0, k < w4.heap.size → k ∈ w.heap.size :: (w.heap.size + 1) :: S0 := fun k hk _ => by simp [hk]
      have hn5 : ∀ k ∈ bk A5, w.heap.size + 2 ≤ k := fun k hk => by have h1 := HN5.out.2.2 k hk; have h2 := HFX.out.size; have h3 := HSZ.out; have h4 := HS4.out.size; omega
      have hn6 : ∀ k ∈ bk A6, w.heap.size + 2 ≤ k := fun k hk => by have h1 := HN6.out.2.2 k hk; have h2 := HG5.out; omega
      exact ⟨HX.out.q, HX.out.f, HX.out.t, HX.out.cm, HX.out.st, (HC.out _ hall).keep hm hin, HX.out.ak, HX.out.e, HX.out.r, HX.out.tm, (HQ.out _ hall).keep hm hin,
        ⟨HX.out.po.e, HX.out.po.r, HX.out.po.v, HX.out.po.p, (HY1.out _ hall).keep hm hin, HX.out.po.b, HX.out.po.m⟩, HX.out.vt, HX.out.i, HX.out.en,
        ⟨HX.out.op.i, HN5.out.by.keep HT9 (fun ad ha hm => by have := hn5 ad.block (by rw [ha]; simp [bk]); simp at hm; omega), H260.out, fun k hk hm => by have h1 := hn5 k hk; have h2 := h0 k hm; omega, fun k hk => Nat.lt_of_lt_of_le (HN5.out.lt k hk) HT9.size, HX.out.op.h, HN5.out.cap⟩, HX.out.dn, (by rw [List.length_take]; omega),
        ⟨HX.out.de.e, HX.out.de.r, (HY2.out _ hall).keep hm hin, (Lst.of_own (ok := fun (_ : World) (v : Wvt) => v.Ok) HN6.out.1 rfl (fun u hu => HV5.out u hu)).keep' HU9 (fun hp a ha hm => by have h1 := hn6 a.block (by rw [ha]; simp [bk]); simp at hm; omega) (fun _ _ h => h), H5.out, fun hp a ha hm => by have ha : A6 = some a := ha; have h1 := hn6 a.block (by rw [ha]; simp [bk]); have h2 := h0 _ hm; omega⟩⟩
  case neg =>
    have HRL : Hid (x.rp.length ≤ 260) := Lib.hid (by omega)
    have hd : decide ((260 : Int) < (x.rp.length : Int)) = false := by simp; omega
    go_upto_region 6 with (fail)
    clear hrp hd
    have hpv : u6.cell? ⟨w.heap.size, 165, none⟩ = some (.int .i64 x.po.v) := by have h := (Wmg.at_len HBf.out.range HLe6.out).po 2 _ rfl; simpa using h
    by_cases hv : x.po.v = 9223372036854775807
    case pos =>
      have hve : (x.po.v == 9223372036854775807) = true := by simp [hv]
      have HBp := Lib.hid (Wmg.blk_pov HLe6.out 0 HBf.out)
      go_upto_region 8 with (refine wpList_store_at rfl 3 _ _ rfl w.heap.size 165 (.int .i64 0) rfl rfl rfl 61 _ HBf.out (HLT.out _ HLe6.out 165 (by omega)) HSN.out ?_)
      change Code.wp _ _ _ _ (u6.setCells w.heap.size 165 [.int .i64 0])
      have HFp : Hid (Fr [w.heap.size] u6 (u6.setCells w.heap.size 165 [.int .i64 0])) := Lib.hid (Fr.setCells (fun _ => by simp) _ 165 _ (Fr.refl _ _))
      have HBp : Hid (Blk (u6.setCells w.heap.size 165 [.int .i64 0]) w.heap.size 61 ({x with ce := c, pr := q, po := {x.po with k := y1, v := 0}, de := {x.de with k := y2, A := A6, n := l6.length, d := c6, l := l6}, op := {x.op with A := A5, n := p5.length, d := c5, p := p5}} : Wmg).cells.toArray) := Lib.hid HBp.out
      generalize u6.setCells w.heap.size 165 [.int .i64 0] = up at *
      have HB1 := Lib.hid (HB1.out.keep HFp.out (by simp))
      have HSp : Hid (Fr [w.heap.size] w4 up) := Lib.hid (HS6.out.trans HFp.out (fun k hk _ => hk))
      have HT5p : Hid (Fr [w.heap.size] w5 up) := Lib.hid (HT5.out.trans HFp.out (fun k hk _ => hk))
      have HU6p : Hid (Fr [w.heap.size] w6 up) := Lib.hid (HU6.out.trans HFp.out (fun k hk _ => hk))
      clear hpv hve hv
      have HLz : Hid (Wmg.Len {x with ce := c, pr := q, po := {x.po with k := y1, v := 0}, de := {x.de with k := y2, A := A6, n := l6.length, d := c6, l := l6}, op := {x.op with A := A5, n := p5.length, d := c5, p := p5}}) := Lib.hid ⟨HL.out.cm, HL.out.st, HCK.out, HL.out.ak, HL.out.vt, HL.out.en, HL.out.op⟩
      obtain ⟨E, hE⟩ : ∃ E, E = ({x with ce := c, pr := q, po := {x.po with k := y1, v := 0}, de := {x.de with k := y2, A := A6, n := l6.length, d := c6, l := l6}, op := {x.op with A := A5, n := p5.length, d := c5, p := p5}} : Wmg).cells := ⟨_, rfl⟩
      have HEL : Hid (E.length = 295) := Lib.hid (by rw [hE]; exact Wmg.lenz HLz.out)
      have HEO : Hid (E.toArray.all (·.oneCell') = true) := Lib.hid (by rw [hE]; exact all_oneCell_toArray (Wmg.one _))
      have HES : Hid ((Tryz.prog.info? 61).map (·.size) = some E.toArray.size) := Lib.hid (by rw [List.size_toArray, HEL.out]; kernel_rfl)
      have HEM : Hid (mz00.size = E.toArray.size) := Lib.hid (by unfold mz00; rw [List.size_toArray, List.size_toArray, HEL.out, Wmg.lenz (mz_len _ _ _)])
      have HER : Hid (up.rangeAt w.heap.size 0 E) := Lib.hid (by rw [hE]; exact HBp.out.range)
      have HB9 := Lib.hid HB1.out
      go_wp2_with (first | (refine wpList_load_mid rfl 61 _ rfl w.heap.size 0 rfl E _ HER.out Tryz.underlying61 rfl (row_msg.of HEL.out).2 ?_) | (refine wpList_store_blk rfl 61 _ _ rfl (w.heap.size + 1) E.toArray rfl rfl 61 mz00 HB9.out HES.out HEM.out HEO.out ?_; intro w9 hb9 hf9))
      refine bodyPost_ret (v := .agg E.toArray) (results_cell_row Tryz.results7 _ _ (w.heap.size + 1) 61 E.toArray _ _ rfl hb9 Tryz.underlying61 rfl HES.out) rfl ?_
      have HS9 : Fr [w.heap.size, w.heap.size + 1] w4 w9 := (HSp.out.mono (by intro k hk _; simp at hk; simp [hk])).trans hf9 (fun k hk _ => by simp at hk; simp [hk])
      have HT9 : Fr [w.heap.size, w.heap.size + 1] w5 w9 := (HT5p.out.mono (by intro k hk _; simp at hk; simp [hk])).trans hf9 (fun k hk _ => by simp at hk; simp [hk])
      have HU9 : Fr [w.heap.size, w.heap.size + 1] w6 w9 := (HU6p.out.mono (by intro k hk _; simp at hk; simp [hk])).trans hf9 (fun k hk _ => by simp at hk; simp [hk])
      refine ⟨{x with ce := c, pr := q, po := {x.po with k := y1, v := 0}, de := {x.de with k := y2, A := A6, n := l6.length, d := c6, l := l6}, op := {x.op with A := A5, n := p5.length, d := c5, p := p5}}, by rw [hE], fun S0 h0 => ?_, HF4.out.go HS9 (by simp)⟩
      have hall : ∀ k ∈ w.heap.size :: (w.heap.size + 1) :: S0, k < wa.heap.size := by
        intro k hk
        have h1 := HSZ.out
        rcases List.mem_cons.1 hk with rfl | hk
        · omega
        · rcases List.mem_cons.1 hk with rfl | hk
          · omega
          · have := h0 k hk; omega
      have hm : Fr (w.heap.size :: (w.heap.size + 1) :: S0) w4 w9 := HS9.mono (by intro k hk _; simp at hk; rcases hk with rfl | rfl <;> simp)
      have hin : ∀ k ∈ S0, k < w4.heap.size → k ∈ w.heap.size :: (w.heap.size + 1) :: S0 := fun k hk _ => by simp [hk]
      have hn5 : ∀ k ∈ bk A5, w.heap.size + 2 ≤ k := fun k hk => by have h1 := HN5.out.2.2 k hk; have h2 := HFX.out.size; have h3 := HSZ.out; have h4 := HS4.out.size; omega
      have hn6 : ∀ k ∈ bk A6, w.heap.size + 2 ≤ k := fun k hk => by have h1 := HN6.out.2.2 k hk; have h2 := HG5.out; omega
      exact ⟨HX.out.q, HX.out.f, HX.out.t, HX.out.cm, HX.out.st, (HC.out _ hall).keep hm hin, HX.out.ak, HX.out.e, HX.out.r, HX.out.tm, (HQ.out _ hall).keep hm hin,
        ⟨HX.out.po.e, HX.out.po.r, (show i64In 0 from zero_in), HX.out.po.p, (HY1.out _ hall).keep hm hin, HX.out.po.b, HX.out.po.m⟩, HX.out.vt, HX.out.i, HX.out.en,
        ⟨HX.out.op.i, HN5.out.by.keep HT9 (fun ad ha hm => by have := hn5 ad.block (by rw [ha]; simp [bk]); simp at hm; omega), H260.out, fun k hk hm => by have h1 := hn5 k hk; have h2 := h0 k hm; omega, fun k hk => Nat.lt_of_lt_of_le (HN5.out.lt k hk) HT9.size, HX.out.op.h, HN5.out.cap⟩, HX.out.dn, HRL.out,
        ⟨HX.out.de.e, HX.out.de.r, (HY2.out _ hall).keep hm hin, (Lst.of_own (ok := fun (_ : World) (v : Wvt) => v.Ok) HN6.out.1 rfl (fun u hu => HV5.out u hu)).keep' HU9 (fun hp a ha hm => by have h1 := hn6 a.block (by rw [ha]; simp [bk]); simp at hm; omega) (fun _ _ h => h), H5.out, fun hp a ha hm => by have ha : A6 = some a := ha; have h1 := hn6 a.block (by rw [ha]; simp [bk]); have h2 := h0 _ hm; omega⟩⟩
    case neg =>
      have hve : (x.po.v == 9223372036854775807) = false := by simp [hv]
      go_upto_region 8 with (fail)
      clear hpv hve hv
      have HLz : Hid (Wmg.Len {x with ce := c, pr := q, po := {x.po with k := y1}, de := {x.de with k := y2, A := A6, n := l6.length, d := c6, l := l6}, op := {x.op with A := A5, n := p5.length, d := c5, p := p5}}) := Lib.hid ⟨HL.out.cm, HL.out.st, HCK.out, HL.out.ak, HL.out.vt, HL.out.en, HL.out.op⟩
      obtain ⟨E, hE⟩ : ∃ E, E = ({x with ce := c, pr := q, po := {x.po with k := y1}, de := {x.de with k := y2, A := A6, n := l6.length, d := c6, l := l6}, op := {x.op with A := A5, n := p5.length, d := c5, p := p5}} : Wmg).cells := ⟨_, rfl⟩
      have HEL : Hid (E.length = 295) := Lib.hid (by rw [hE]; exact Wmg.lenz HLz.out)
      have HEO : Hid (E.toArray.all (·.oneCell') = true) := Lib.hid (by rw [hE]; exact all_oneCell_toArray (Wmg.one _))
      have HES : Hid ((Tryz.prog.info? 61).map (·.size) = some E.toArray.size) := Lib.hid (by rw [List.size_toArray, HEL.out]; kernel_rfl)
      have HEM : Hid (mz00.size = E.toArray.size) := Lib.hid (by unfold mz00; rw [List.size_toArray, List.size_toArray, HEL.out, Wmg.lenz (mz_len _ _ _)])
      have HER : Hid (u6.rangeAt w.heap.size 0 E) := Lib.hid (by rw [hE]; exact HBf.out.range)
      have HB9 := Lib.hid HB1.out
      go_wp2_with (first | (refine wpList_load_mid rfl 61 _ rfl w.heap.size 0 rfl E _ HER.out Tryz.underlying61 rfl (row_msg.of HEL.out).2 ?_) | (refine wpList_store_blk rfl 61 _ _ rfl (w.heap.size + 1) E.toArray rfl rfl 61 mz00 HB9.out HES.out HEM.out HEO.out ?_; intro w9 hb9 hf9))
      refine bodyPost_ret (v := .agg E.toArray) (results_cell_row Tryz.results7 _ _ (w.heap.size + 1) 61 E.toArray _ _ rfl hb9 Tryz.underlying61 rfl HES.out) rfl ?_
      have HS9 : Fr [w.heap.size, w.heap.size + 1] w4 w9 := (HS6.out.mono (by intro k hk _; simp at hk; simp [hk])).trans hf9 (fun k hk _ => by simp at hk; simp [hk])
      have HT9 : Fr [w.heap.size, w.heap.size + 1] w5 w9 := (HT5.out.mono (by intro k hk _; simp at hk; simp [hk])).trans hf9 (fun k hk _ => by simp at hk; simp [hk])
      have HU9 : Fr [w.heap.size, w.heap.size + 1] w6 w9 := (HU6.out.mono (by intro k hk _; simp at hk; simp [hk])).trans hf9 (fun k hk _ => by simp at hk; simp [hk])
      refine ⟨{x with ce := c, pr := q, po := {x.po with k := y1}, de := {x.de with k := y2, A := A6, n := l6.length, d := c6, l := l6}, op := {x.op with A := A5, n := p5.length, d := c5, p := p5}}, by rw [hE], fun S0 h0 => ?_, HF4.out.go HS9 (by simp)⟩
      have hall : ∀ k ∈ w.heap.size :: (w.heap.size + 1) :: S0, k < wa.heap.size := by
        intro k hk
        have h1 := HSZ.out
        rcases List.mem_cons.1 hk with rfl | hk
        · omega
        · rcases List.mem_cons.1 hk with rfl | hk
          · omega
          · have := h0 k hk; omega
      have hm : Fr (w.heap.size :: (w.heap.size + 1) :: S0) w4 w9 := HS9.mono (by intro k hk _; simp at hk; rcases hk with rfl | rfl <;> simp)
      have hin : ∀ k ∈ S0, k < w4.heap.size → k ∈ w.heap.size :: (w.heap.size + 1) :: S0 := fun k hk _ => by simp [hk]
      have hn5 : ∀ k ∈ bk A5, w.heap.size + 2 ≤ k := fun k hk => by have h1 := HN5.out.2.2 k hk; have h2 := HFX.out.size; have h3 := HSZ.out; have h4 := HS4.out.size; omega
      have hn6 : ∀ k ∈ bk A6, w.heap.size + 2 ≤ k := fun k hk => by have h1 := HN6.out.2.2 k hk; have h2 := HG5.out; omega
      exact ⟨HX.out.q, HX.out.f, HX.out.t, HX.out.cm, HX.out.st, (HC.out _ hall).keep hm hin, HX.out.ak, HX.out.e, HX.out.r, HX.out.tm, (HQ.out _ hall).keep hm hin,
        ⟨HX.out.po.e, HX.out.po.r, HX.out.po.v, HX.out.po.p, (HY1.out _ hall).keep hm hin, HX.out.po.b, HX.out.po.m⟩, HX.out.vt, HX.out.i, HX.out.en,
        ⟨HX.out.op.i, HN5.out.by.keep HT9 (fun ad ha hm => by have := hn5 ad.block (by rw [ha]; simp [bk]); simp at hm; omega), H260.out, fun k hk hm => by have h1 := hn5 k hk; have h2 := h0 k hm; omega, fun k hk => Nat.lt_of_lt_of_le (HN5.out.lt k hk) HT9.size, HX.out.op.h, HN5.out.cap⟩, HX.out.dn, HRL.out,
        ⟨HX.out.de.e, HX.out.de.r, (HY2.out _ hall).keep hm hin, (Lst.of_own (ok := fun (_ : World) (v : Wvt) => v.Ok) HN6.out.1 rfl (fun u hu => HV5.out u hu)).keep' HU9 (fun hp a ha hm => by have h1 := hn6 a.block (by rw [ha]; simp [bk]); simp at hm; omega) (fun _ _ h => h), H5.out, fun hp a ha hm => by have ha : A6 = some a := ha; have h1 := hn6 a.block (by rw [ha]; simp [bk]); have h2 := h0 _ hm; omega⟩⟩
end Go.Proofs.YtnpjihdhpoddgaaGreat

namespace Go.Proofs.YtnpjihdhpoddgaaGreat
open Go.RowKit
set_option maxRecDepth 100000
theorem exec_eql {P : Program} {ev : Operand → Value} {o : Oper} {w : World} (ty r : TypeId) (x y : Operand) (ho : o.op = .binOp .eql ty x y r) (C D : Array Value) (hx : ev x = .agg C) (hy : ev y = .agg D) (b : Bool)
    (hg : P.eqGuardType P.depth ty = false) (hq : (Op.equalIn 10000 ty (.agg C) (.agg D)).run P w = .ok b w) : (execOp ev o).run P w = .ok (.value (.bool b)) w := by
  have hq' : (Op.equal ty (.agg C) (.agg D)).run P w = .ok b w := hq
  unfold execOp
  simp only [ho, hx, hy]
  simp [eqGuard, binOp, hg, hq', Result.andThen]
theorem eql_at {P : Program} {l : List Oper} {Q : Exit → Act → World → Prop} {md : Region.Mode} {S : World → Prop} {fuel : Nat} {listed : Array Bool} {a : Act} {w : World}
    {i : Nat} {oi : Oper} (hi : nthOp l i = some oi) (ht : takeOk md l.toArray listed i = true) (hw : Region.wanted oi (yielded l.toArray a.tmps) = true)
    (ty r : TypeId) (x y : Operand) (ho : oi.op = .binOp .eql ty x y r) (C D : Array Value) (hx : a.eval x = .agg C) (hy : a.eval y = .agg D) (b : Bool) (hg : P.eqGuardType P.depth ty = false)
    (hq : ∀ w, (Op.equalIn 10000 ty (.agg C) (.agg D)).run P w = .ok b w)
    (hQ : ∀ c a w, Q (.panic c) (a.put oi.dst (.bool b)) w → Q (.panic c) a w) (hS : S w)
    (h : wpAnyH P md l.toArray Q S fuel (listed.setIfInBounds i true) (a.put oi.dst (.bool b)) w) : wpAnyH P md l.toArray Q S (fuel + 1) listed a w :=
  run_at hi ht hw hQ hS (fun _ _ => exec_eql ty r x y ho C D hx hy b hg (hq _)) h
theorem exec_neq {P : Program} {ev : Operand → Value} {o : Oper} {w : World} (ty r : TypeId) (x y : Operand) (ho : o.op = .binOp .neq ty x y r) (C D : Array Value) (hx : ev x = .agg C) (hy : ev y = .agg D) (b : Bool)
    (hg : P.eqGuardType P.depth ty = false) (hq : (Op.equalIn 10000 ty (.agg C) (.agg D)).run P w = .ok b w) : (execOp ev o).run P w = .ok (.value (.bool (!b))) w := by
  have hq' : (Op.equal ty (.agg C) (.agg D)).run P w = .ok b w := hq
  unfold execOp
  simp only [ho, hx, hy]
  simp [eqGuard, binOp, hg, hq', Result.andThen]
theorem neq_at {P : Program} {l : List Oper} {Q : Exit → Act → World → Prop} {md : Region.Mode} {S : World → Prop} {fuel : Nat} {listed : Array Bool} {a : Act} {w : World}
    {i : Nat} {oi : Oper} (hi : nthOp l i = some oi) (ht : takeOk md l.toArray listed i = true) (hw : Region.wanted oi (yielded l.toArray a.tmps) = true)
    (ty r : TypeId) (x y : Operand) (ho : oi.op = .binOp .neq ty x y r) (C D : Array Value) (hx : a.eval x = .agg C) (hy : a.eval y = .agg D) (b : Bool) (hg : P.eqGuardType P.depth ty = false)
    (hq : ∀ w, (Op.equalIn 10000 ty (.agg C) (.agg D)).run P w = .ok b w)
    (hQ : ∀ c a w, Q (.panic c) (a.put oi.dst (.bool (!b))) w → Q (.panic c) a w) (hS : S w)
    (h : wpAnyH P md l.toArray Q S fuel (listed.setIfInBounds i true) (a.put oi.dst (.bool (!b))) w) : wpAnyH P md l.toArray Q S (fuel + 1) listed a w :=
  run_at hi ht hw hQ hS (fun _ _ => exec_neq ty r x y ho C D hx hy b hg (hq _)) h
end Go.Proofs.YtnpjihdhpoddgaaGreat
