/- BookOnce: a signature is right for its signer, mark and text alone. (written by gen_bon.py) -/
import Derived.Test.YtdgbcdmooklciaaBook3
import Derived.Test.YtdgbcdmooklciaaRowv
import Derived.Test.YtdgbcdmooklciaaVals
import Derived.Test.YtdgbcdmooklciaaSame
import Derived.Test.YtdgbcdmooklciaaLst2
import Derived.Test.YtdgbcdmooklciaaEqS
import Derived.Test.YtdgbcdmooklciaaEqX
import Derived.Test.YtdgbcdmooklciaaReg2
import Derived.Deep.CutBlock
import Derived.IntWalk
namespace Go.Proofs.Ytdgbcdmooklciaa
open Go.RowKit
set_option maxRecDepth 100000
def bookOf (es : List Ent) : List Ent := es.foldl sgn []
def sgc (q : Int × Int) : List Value := [.int .i64 q.1, .int .i64 q.2]
def sgs (es : List Ent) : List (Int × Int) := es.map (fun e => (e.1, mrk (bookOf es) e))
theorem bookOf_snoc (es : List Ent) (e : Ent) : bookOf (es ++ [e]) = sgn (bookOf es) e := by simp [bookOf, List.foldl_append]
theorem mem_sgn {l : List Ent} {e x : Ent} (h : x ∈ l) : x ∈ sgn l e := by unfold sgn; split <;> simp [h]
theorem sgn_le (l : List Ent) (e : Ent) : (sgn l e).length ≤ l.length + 1 := by unfold sgn; split <;> simp
theorem mem_sgn_self (l : List Ent) (e : Ent) : e ∈ sgn l e := by unfold sgn; split <;> simp_all
theorem mrk_sgn {l : List Ent} {e x : Ent} (h : x ∈ l) : mrk (sgn l e) x = mrk l x := by
  unfold sgn mrk
  split
  · rfl
  · simp [List.idxOf_append, h]
theorem mem_fold : ∀ (es acc : List Ent) {x : Ent}, x ∈ acc ∨ x ∈ es → x ∈ es.foldl sgn acc
  | [], acc, x, h => h.elim id (fun h => by cases h)
  | e :: es, acc, x, h => by
    show x ∈ es.foldl sgn (sgn acc e)
    refine mem_fold es _ ?_
    rcases h with h | h
    · exact .inl (mem_sgn h)
    · rcases List.mem_cons.1 h with rfl | h
      · exact .inl (mem_sgn_self _ _)
      · exact .inr h
theorem mem_bookOf (es : List Ent) {e : Ent} (h : e ∈ es) : e ∈ bookOf es := mem_fold es [] (.inr h)
theorem sgs_snoc (es : List Ent) (e : Ent) : sgs (es ++ [e]) = sgs es ++ [(e.1, mrk (sgn (bookOf es) e) e)] := by
  unfold sgs
  rw [List.map_append, bookOf_snoc]
  congr 1
  exact List.map_congr_left (fun x hx => by rw [mrk_sgn (mem_bookOf es hx)])
theorem fold_len : ∀ (es acc : List Ent), (es.foldl sgn acc).length ≤ acc.length + es.length
  | [], acc => by simp
  | e :: es, acc => by
    show (es.foldl sgn (sgn acc e)).length ≤ _
    have h := fold_len es (sgn acc e)
    have h2 : (sgn acc e).length ≤ acc.length + 1 := by unfold sgn; split <;> simp
    simp only [List.length_cons]
    omega
theorem bookOf_len (es : List Ent) : (bookOf es).length ≤ es.length := by
  have h := fold_len es []
  simpa [bookOf] using h
theorem idx_inj {l : List Ent} {a b : Ent} (ha : a ∈ l) (hb : b ∈ l) (h : l.idxOf a = l.idxOf b) : a = b := by
  have h1 := List.getElem_idxOf (List.idxOf_lt_length_iff.2 ha)
  have h2 := List.getElem_idxOf (List.idxOf_lt_length_iff.2 hb)
  rw [← h1, ← h2]
  congr 1
theorem mrk_inj {l : List Ent} {a b : Ent} (ha : a ∈ l) (hb : b ∈ l) (h : mrk l a = mrk l b) : a = b := idx_inj ha hb (by unfold mrk at h; omega)
/-- right for its own text alone -/
theorem right_own {l : List Ent} {x : Int} {t u : List UInt8} (h : (x, t) ∈ l) : rightB l x (mrk l (x, t)) u = decide (t = u) := by
  unfold rightB
  by_cases hu : t = u
  · subst hu
    simp [h, mrk]
  · rw [decide_eq_false hu]
    by_cases hm : (x, u) ∈ l
    · have : ((l.idxOf (x, u) + 1 : Nat) : Int) ≠ mrk l (x, t) := fun he => hu (by
        have := mrk_inj (l := l) h hm he.symm
        injection this)
      simp
      intro _
      omega
    · simp [hm]
theorem right_by {l : List Ent} {x y : Int} {t : List UInt8} (h : (x, t) ∈ l) (hy : y ≠ x) : rightB l y (mrk l (x, t)) t = false := by
  unfold rightB
  by_cases hm : (y, t) ∈ l
  · have : ((l.idxOf (y, t) + 1 : Nat) : Int) ≠ mrk l (x, t) := fun he => hy (by
      have := mrk_inj (l := l) hm h he
      injection this)
    simp
    intro _
    omega
  · simp [hm]
theorem right_far {l : List Ent} {x m : Int} {t : List UInt8} (hm : m ≤ 0 ∨ (l.length : Int) < m) : rightB l x m t = false := by
  unfold rightB
  by_cases h : (x, t) ∈ l
  · have h1 := List.idxOf_lt_length_iff.2 h
    have : ((l.idxOf (x, t) + 1 : Nat) : Int) ≠ m := by omega
    simp
    intro _
    omega
  · simp [h]
theorem eql_sg (a b c d : Int) (W : World) : (Op.equalIn 10000 30 (.agg #[.int .i64 a, .int .i64 b]) (.agg #[.int .i64 c, .int .i64 d])).run Try.prog W = .ok (decide (a = c) && decide (b = d)) W := eql_sig a b c d 9998 W
section
variable {P : Program} {l : List Oper} {Q : Exit → Act → World → Prop} {md : Region.Mode} {S : World → Prop} {fuel : Nat} {listed : Array Bool} {a : Act} {w : World}
theorem crow_at {i : Nat} {oi : Oper} (hi : nthOp l i = some oi) (ht : takeOk md l.toArray listed i = true) (hw : Region.wanted oi (yielded l.toArray a.tmps) = true)
    (ty : TypeId) (x : Operand) (ho : oi.op = .load ty x) (ad : Addr) (hx : a.eval x = .pointer (some ad)) (cs : List Value) (hc : ∀ w1, S w1 → ∀ j v, cs[j]? = some v → w1.cell? (ad.add j) = some v) (hr : RowTy P ty cs.length)
    (hQ : ∀ c a w, Q (.panic c) (a.put oi.dst (.agg cs.toArray)) w → Q (.panic c) a w) (hS : S w)
    (h : wpAnyH P md l.toArray Q S fuel (listed.setIfInBounds i true) (a.put oi.dst (.agg cs.toArray)) w) : wpAnyH P md l.toArray Q S (fuel + 1) listed a w :=
  take_at hi ht hQ (.inl ⟨hw, fun w1 h1 => exec_cells ty x ho ad hx cs hr (hc w1 h1)⟩) hS h
end
theorem wf_wrap64 (n : Int) : (Lit.int .i64 (IntKind.i64.wrap n)).wf = true := by
  rw [IntKind.wrap_i64]
  show (decide (IntKind.i64.min ≤ _) && decide (_ ≤ IntKind.i64.max)) = true
  rw [show IntKind.i64.min = -9223372036854775808 from rfl, show IntKind.i64.max = 9223372036854775807 from rfl]
  simp only [Bool.and_eq_true, decide_eq_true_eq]
  omega
theorem flat_one : ∀ l : List RowV, l.flatMap (fun r => [RowV.val r]) = l.map RowV.val
  | [] => rfl
  | x :: l => by rw [List.flatMap_cons, flat_one l]; rfl
theorem built_sg2 (a b : Int) : Try.prog.built 30 [(0, .int .i64 a), (1, .int .i64 b)] = some #[.int .i64 a, .int .i64 b] := by kernel_rfl
theorem built_sg1 (a : Int) : Try.prog.built 30 [(0, .int .i64 a)] = some #[.int .i64 a, .int .i64 0] := by kernel_rfl
theorem wrap_far (b r : Int) (hb : -9223372036854775808 ≤ b ∧ b < 9223372036854775808) (hr : 0 ≤ r ∧ r < 9) : IntKind.i64.wrap (IntKind.i64.wrap (b + 1) + r) ≠ b := by
  rw [IntKind.wrap_i64, IntKind.wrap_i64]
  omega
theorem row_sg1 : RowTy Try.prog 30 2 := ⟨by kernel_rfl, by kernel_rfl⟩
theorem new_ex2 (w : World) : Calls Try.prog 8 #[] w fun e w' => ∃ S g, e = .returned (.pointer (some ⟨g, 0, none⟩)) ∧ Bok w' S g [] ∧ Fr [] w w' ∧ ∀ x ∈ S, w.heap.size ≤ x :=
  (new_any w).mono fun e w' ⟨he, hb, hf⟩ => ⟨_, _, he, hb, hf, by simp⟩
theorem el_sg : ElTy Try.prog 30 2 16 := ElTy.of (by kernel_rfl)
theorem el_row : ElTy Try.prog 27 1 24 := ElTy.of (by kernel_rfl)

theorem wpList_append_el {P : Program} {ops : Array Oper} {rest : List Oper} {o : Oper} {a : Act} {w : World} {Q : Exit → Act → World → Prop} (hg : o.guard = none) (s x : Operand) (t e : TypeId)
    (ho : o.op = .call { callee := .builtin .append, args := #[s, x], argTypes := #[t, t] }) (ht : P.underlying t = some (.slice e)) (k bytes : Nat) (he : ElTy P e k bytes) (hk : 0 < k)
    (base : Nat) (v : Value) (n : Nat) (xs cs : List Value) (hs : a.eval s = v) (hown : w.ownsRow base e k v n xs) (hbase : base ≤ w.heap.size) (hcl : cs.length = k) (h1 : ∀ u ∈ cs, u.oneCell' = true)
    (g : Nat) (t' : TypeId) (hx : a.eval x = .slice (some ⟨g, 0, none⟩) 1 1) (hb : Blk w g t' cs.toArray) (hn : n < 1000000) (hby : bytes ≤ 1000)
    (h : ∀ A c w', w'.ownsRow base e k (.slice A (n + 1) c) (n + 1) (xs ++ cs) → Fr v.ownBlock.toList w w' → ((Value.slice A (n + 1) c).ownBlock = v.ownBlock ∨ (Value.slice A (n + 1) c).ownBlock = some w.heap.size) → wpList P ops Q rest (a.put o.dst (.slice A (n + 1) c)) w') : wpList P ops Q (o :: rest) a w := by
  obtain ⟨i, z, hi, hz, hzs, hsz, hbs⟩ := he
  refine wpList_append_lies w hg s x t ho base e i z k bytes ht hi hz hsz hbs hzs hk v n xs hs hown ⟨g, 0, none⟩ 1 1 cs hx (by omega) (fun j u hu => ?_) h1 (by omega) (by simp only [maxLen]; omega)
    (Nat.le_trans (Nat.mul_le_mul (show n + 1 ≤ 1000000 by omega) hby) (by decide)) hbase _ rfl (fun g' cap w' h2 h3 h4 _ => ?_)
  · have hadd : (⟨g, 0, none⟩ : Addr).add j = ⟨g, j, none⟩ := by unfold Addr.add; split <;> simp_all
    rw [hadd, hb.cell j]
    simpa using hu
  · exact h _ _ w' h2 ((Fr.refl _ w).grown h3 (fun y hy _ => by simp [hy])) (h4.imp (fun e => e.symm) (fun e => by rw [e]; rfl))

set_option maxHeartbeats 8000000 in
theorem bookOnce_walk0 (w : World) (A : Option Addr) (n c : Nat) (l : List RowV) (hl : RowsIn w A n l) (hn : n ≤ c) (hc : c ≤ maxLen) (B : Option Addr) (m d : Nat) (zs : List Int) (hz : Lst 1 (fun z => [Value.int .i64 z]) (fun _ z => (Lit.int .i64 z).wf = true) w B m zs) (hm : m ≤ d) (hd : d ≤ maxLen)
    (wh by_ mk : Int) (hwh : i64In wh) (hby : (Lit.int .i64 by_).wf = true) (hmk : i64In mk) :
    Calls Try.prog 3 #[.slice A n c, .slice B m d, .int .i64 wh, .int .i64 by_, .int .i64 mk] w fun e w' => e = .returned (.bool true) ∧ Fr [] w w' := by
  unfold maxLen at hc hd
  have HL := Lib.hid hl
  have HZ := Lib.hid hz
  have HWH := Lib.hid hwh
  have HBY := Lib.hid hby
  have HMK := Lib.hid hmk
  clear hl hz hwh hby hmk
  go_enter Try.func3, Try.ntmps3
  go_wp2_with fail
  refine (new_ex2 w).mono ?_
  rintro e w1 ⟨S, g, rfl, hb1, hf1, hs1⟩
  have HB1 := Lib.hid hb1
  have HF1 := Lib.hid hf1
  have HSG := Lib.hid hs1
  clear hb1 hf1 hs1
  go_upto_block 0 with (fail)
  go_cut [12, 13, 14] (fun s12 s13 _ wx => ∃ (k : Nat) (A12 : Option Addr) (c12 : Nat) (A13 : Option Addr) (c13 : Nat) (es : List Ent) (rs : List RowV), k ≤ 10 ∧ s12 = .slice A12 k c12 ∧ s13 = .slice A13 k c13 ∧ es.length = k ∧ Hid (rs.map (·.b) = es.map (·.2)) ∧ Hid (∀ r ∈ rs, r.n ≤ 30) ∧ Hid (∀ e ∈ es, (Lit.int .i64 e.1).wf = true) ∧ Hid (Bok wx S g (bookOf es)) ∧ Hid (wx.ownsRow 0 30 2 (.slice A12 k c12) k ((sgs es).flatMap sgc)) ∧ Hid (wx.ownsRow 0 27 1 (.slice A13 k c13) k (rs.map RowV.val)) ∧ Hid (RowsOk wx (S ++ bk A12 ++ bk A13) rs) ∧ Hid (∀ x ∈ bk A12, ¬ x ∈ S ∧ ¬ x ∈ bk A13) ∧ Hid (∀ x ∈ bk A13, ¬ x ∈ S) ∧ Hid (Fr [] w wx) ∧ Hid (∀ x ∈ S ++ bk A12 ++ bk A13, w.heap.size ≤ x))
  case first =>
    go_wp2_with fail
    go_loopw [12, 13, 14] (fun s12 s13 i wr => (∃ (k : Nat) (A12 : Option Addr) (c12 : Nat) (A13 : Option Addr) (c13 : Nat) (es : List Ent) (rs : List RowV), k ≤ 10 ∧ s12 = .slice A12 k c12 ∧ s13 = .slice A13 k c13 ∧ es.length = k ∧ Hid (rs.map (·.b) = es.map (·.2)) ∧ Hid (∀ r ∈ rs, r.n ≤ 30) ∧ Hid (∀ e ∈ es, (Lit.int .i64 e.1).wf = true) ∧ Hid (Bok wr S g (bookOf es)) ∧ Hid (wr.ownsRow 0 30 2 (.slice A12 k c12) k ((sgs es).flatMap sgc)) ∧ Hid (wr.ownsRow 0 27 1 (.slice A13 k c13) k (rs.map RowV.val)) ∧ Hid (RowsOk wr (S ++ bk A12 ++ bk A13) rs) ∧ Hid (∀ x ∈ bk A12, ¬ x ∈ S ∧ ¬ x ∈ bk A13) ∧ Hid (∀ x ∈ bk A13, ¬ x ∈ S) ∧ Hid (Fr [] w wr) ∧ Hid (∀ x ∈ S ++ bk A12 ++ bk A13, w.heap.size ≤ x)) ∧ ∃ k : Nat, k ≤ n ∧ k ≤ m ∧ k ≤ 10 ∧ i = .int .i64 k ∧ ∃ A c, s12 = .slice A k c) (fun _ _ i _ => 10 - (intOf i).toNat)
    case atStart => exact ⟨⟨0, none, 0, none, 0, [], [], by omega, rfl, rfl, rfl, Lib.hid rfl, Lib.hid (by simp), Lib.hid (by simp), HB1, Lib.hid ⟨by simp [sgs], .inl ⟨rfl, rfl⟩⟩, Lib.hid ⟨by simp, .inl ⟨rfl, rfl⟩⟩, Lib.hid (by intro r hr; simp at hr), Lib.hid (by simp [bk]), Lib.hid (by simp [bk]), HF1, Lib.hid (by simpa [bk] using HSG.out)⟩, 0, by omega, by omega, by omega, rfl, _, _, rfl⟩
    case round =>
      obtain ⟨⟨k, A12, c12, A13, c13, es, rs, -, rfl, rfl, hel, HRB, HRN, HEI, HB, HO12, HO13, HROK, HAP, HAP13, HF, HGE⟩, k', hkn, hkm, hk10, rfl, A', c', he⟩ := hrel
      obtain ⟨hA', hkk, hc'⟩ : A12 = A' ∧ k = k' ∧ c12 = c' := by injection he with h1 h2 h3; exact ⟨h1, h2, h3⟩
      subst hkk
      clear he hA' hc' A' c'
      by_cases hlt : k < n ∧ k < m ∧ k < 10
      · obtain ⟨hk1, hk2, hk3⟩ := hlt
        obtain ⟨ad, r, hA, hgr, hy, hrc, hrm, hcell⟩ := HL.out.at HF.out.below_all hk1
        subst hA
        obtain ⟨bd, z, hB, hgz, -, hzi, hzc⟩ := HZ.out.at (i := k) hk2
        subst hB
        have hzc0 : w.cell? (bd.add k) = some (.int .i64 z) := by
          have h := hzc 0 _ rfl
          simpa [Addr.add] using h
        have hzc' := HF.out.cell hzc0 (by simp)
        have HZ0 := Lib.hid hzc0
        have HY := Lib.hid hy
        have HZI := Lib.hid hzi
        have HRC := Lib.hid (And.intro hrc hrm)
        have HZC := Lib.hid hzc'
        have hk0 : (0 : Int) ≤ k := by omega
        clear hgr hy hrc hrm hgz hzi hzc hzc0
        go_wp2_with fail
        rw [show (30 : Int) = ((30 : Nat) : Int) from rfl]
        refine (cut_any r.A r.n r.c 30 r.b wr HY.out (Nat.le_trans HRC.out.1 HRC.out.2) HRC.out.1 (by omega)).mono ?_
        rintro e w2 ⟨A2, c2, rfl, hN2⟩
        have h30 : (r.b.take 30).length ≤ 30 := List.length_take_le _ _
        generalize r.b.take 30 = t at *
        have HN2 := Lib.hid hN2
        have H30 := Lib.hid h30
        have hzc2 := hN2.2.1.cell HZC.out (by simp)
        have hb2 := HB.out.keep hN2.2.1 (by simp)
        have HB2 := Lib.hid hb2
        clear hN2 h30 hb2 hcell hzc'
        go_wp2_with fail
        have HLN : Hid ((bookOf es).length ≤ 10) := Lib.hid (by have := bookOf_len es; omega)
        refine (sign_any w2 S g (bookOf es) HB2.out z HZI.out A2 t.length c2 t HN2.out.by (by have := H30.out; unfold maxLen; omega) (by have := HLN.out; omega)).mono ?_
        rintro e w3 ⟨rfl, hb3, hf3⟩
        have hmk1 : 1 ≤ mrk (sgn (bookOf es) (z, t)) (z, t) := by unfold mrk; omega
        have hmem := mem_sgn_self (bookOf es) (z, t)
        obtain ⟨L, hL⟩ : ∃ L, L = sgn (bookOf es) (z, t) := ⟨_, rfl⟩
        rw [← hL] at hb3 hmk1 hmem ⊢
        obtain ⟨mm, hmm⟩ : ∃ mm, mm = mrk L (z, t) := ⟨_, rfl⟩
        rw [← hmm] at hmk1 ⊢
        have HB3 := Lib.hid hb3
        have HF3 := Lib.hid hf3
        have HM1 := Lib.hid hmk1
        have HME := Lib.hid hmem
        have HLE := Lib.hid hL
        have HMM := Lib.hid hmm
        clear hb3 hf3 hmk1 hmem hL hmm hzc2
        have HLTS : Hid (∀ x ∈ S, x < wr.heap.size) := Lib.hid HB.out.lt
        have HLT12 : Hid (∀ x ∈ bk A12, x < wr.heap.size) := Lib.hid (fun x hx => own_lt HO12.out x (by rw [bk_mem]; exact hx))
        have HLT13 : Hid (∀ x ∈ bk A13, x < wr.heap.size) := Lib.hid (fun x hx => own_lt HO13.out x (by rw [bk_mem]; exact hx))
        have HLTR : Hid (∀ r ∈ rs, ∀ x ∈ bk r.A, x < wr.heap.size) := Lib.hid (fun r hr x hx => HROK.out.lt r hr x hx)
        have HA2 : Hid (∀ x ∈ bk A2, wr.heap.size ≤ x ∧ x < w2.heap.size) := Lib.hid (fun x hx => ⟨HN2.out.2.2 x hx, NewB.lt HN2.out x hx⟩)
        have HS2 : Hid (wr.heap.size ≤ w2.heap.size ∧ w2.heap.size ≤ w3.heap.size) := Lib.hid ⟨HN2.out.2.1.size, HF3.out.size⟩
        go_upto_region 11 with (refine wpList_store_blk rfl 30 _ _ rfl w3.heap.size #[.int .i64 z, .int .i64 mm] rfl rfl 30 _ (Blk.new w3 _ _) (by kernel_rfl) rfl (by kernel_rfl) ?_; intro w4 hb4 hf4)
        have hf34 : Fr [] w3 w4 := ((Fr.refl [] w3).alloc _).and hf4 (by simp)
        have HS4 : Hid (w3.heap.size < w4.heap.size) := Lib.hid hb4.lt
        have HF4 : Hid (Fr [] w w4) := Lib.hid (((HF.out.and HN2.out.2.1 (by simp)).go HF3.out (fun x hx => HGE.out x (by simp [hx]))).and hf34 (by simp))
        have HG4 := Lib.hid hb4
        have HB4 := Lib.hid (HB3.out.keep hf34 (by simp))
        have HFS : Hid (Fr S wr w4) := Lib.hid (((HN2.out.2.1.mono (T := S) (by simp)).trans HF3.out (fun x hx _ => hx)).trans hf34 (by simp))
        have HO12 := Lib.hid (own_keep HO12.out HFS.out (fun x hx => (HAP.out x (by rw [bk_mem] at hx; exact hx)).1))
        have HO13 := Lib.hid (own_keep HO13.out HFS.out (fun x hx => HAP13.out x (by rw [bk_mem] at hx; exact hx)))
        have HROK := Lib.hid (HROK.out.keep (S' := S ++ bk A12 ++ bk A13) HFS.out (fun r hr x hx hin => (HROK.out r hr).2 x hx (by simp [hin])) (fun x hx _ => hx))
        have HNA : Hid (w4.ownsRow 0 5 1 (.slice A2 t.length c2) t.length (t.map by8)) := Lib.hid (own_keep (own_keep HN2.out.1 HF3.out (fun x hx hin => by rw [bk_mem] at hx; have h1 := (HA2.out x hx).1; have h2 := HLTS.out x hin; omega)) hf34 (by simp))
        have HCZ := Lib.hid (HF4.out.cell HZ0.out (by simp))
        have HC0 : Hid (w4.cell? ⟨w3.heap.size, 0, none⟩ = some (.int .i64 z)) := Lib.hid (hb4.cell 0)
        have HC1 : Hid (w4.cell? ⟨w3.heap.size, 1, none⟩ = some (.int .i64 mm)) := Lib.hid (hb4.cell 1)
        have HNS : Hid (¬ w3.heap.size ∈ S) := Lib.hid (fun hin => by have h1 := HLTS.out _ hin; have h2 := HS2.out; omega)
        have HNW : Hid (¬ (bd.add k).block ∈ S) := Lib.hid (fun hin => by have h1 := World.block_lt_of_cell? w _ HZ0.out; have h2 := HGE.out _ (List.mem_append.2 (.inl (List.mem_append.2 (.inl hin)))); omega)
        clear hb4 hf4 hf34 HN2 HB3 HB2 HF3 HB HF HFS HY HZC
        have hsg := sign_any w4.drew S g L (HB4.out.keep (Fr.drew (Fr.refl [] w4)) (by simp)) z HZI.out A2 t.length c2 t (By.of_own HNA.out).drew (by have := H30.out; unfold maxLen; omega) (by have h1 := HLN.out; have h2 := sgn_le (bookOf es) (z, t); rw [← HLE.out] at h2; omega)
        rw [mrk_old HME.out, ← HMM.out] at hsg
        have HSGN := Lib.hid hsg
        clear hsg
        have hE : ∀ W : World, (Op.equalIn 10000 30 (.agg #[.int .i64 z, .int .i64 mm]) (.agg #[.int .i64 z, .int .i64 mm])).run Try.prog W = .ok true W := fun W => by
          have h := eql_sg z mm z mm W
          simpa using h
        have HEQ := Lib.hid hE
        have hm1 : ¬ mm < 1 := by have := HM1.out; omega
        clear hE
        refine wp_region_held_drew (S := Fr S w4) (by kernel_rfl) (Fr.drew (Fr.refl _ w4)) (fun hHeld => ?_)
        refine run_at (i := 0) (v := ?_) rfl (by kernel_rfl) (by rfl) (fun _ _ _ h => h) hHeld (fun w1 hw1 => ?_) ?_
        rotate_left 1
        · skip
          go_simp
          (try (first | with_reducible rfl | (apply And.intro <;> rfl)))
        simp only [Act.put, List.setIfInBounds_toArray, List.set_cons_zero, List.set_cons_succ]
        refine run_at (i := 1) (v := ?_) rfl (by kernel_rfl) (by rfl) (fun _ _ _ h => h) hHeld (fun w1 hw1 => ?_) ?_
        rotate_left 1
        · skip
          have hcw0 := hw1.cell (HC0.out) (by first | (simp; done) | exact HNS.out | exact HNW.out | (intro hm; have hlt := HSB.out _ hm; (try dsimp only at hlt); omega))
          go_simp
          (try (first | with_reducible rfl | (apply And.intro <;> rfl)))
        simp only [Act.put, List.setIfInBounds_toArray, List.set_cons_zero, List.set_cons_succ]
        refine run_at (i := 2) (v := ?_) rfl (by kernel_rfl) (by rfl) (fun _ _ _ h => h) hHeld (fun w1 hw1 => ?_) ?_
        rotate_left 1
        · skip
          go_simp
          (try (first | with_reducible rfl | (apply And.intro <;> rfl)))
        simp only [Act.put, List.setIfInBounds_toArray, List.set_cons_zero, List.set_cons_succ]
        refine run_at (i := 3) (v := ?_) rfl (by kernel_rfl) (by rfl) (fun _ _ _ h => h) hHeld (fun w1 hw1 => ?_) ?_
        rotate_left 1
        · skip
          go_simp
          (try (first | with_reducible rfl | (apply And.intro <;> rfl)))
        simp only [Act.put, List.setIfInBounds_toArray, List.set_cons_zero, List.set_cons_succ]
        refine run_at (i := 4) (v := ?_) rfl (by kernel_rfl) (by rfl) (fun _ _ _ h => h) hHeld (fun w1 hw1 => ?_) ?_
        rotate_left 1
        · skip
          go_simp
          (try (first | with_reducible rfl | (apply And.intro <;> rfl)))
        simp only [Act.put, List.setIfInBounds_toArray, List.set_cons_zero, List.set_cons_succ]
        refine run_at (i := 5) (v := ?_) rfl (by kernel_rfl) (by rfl) (fun _ _ _ h => h) hHeld (fun w1 hw1 => ?_) ?_
        rotate_left 1
        · skip
          have hcw0 := hw1.cell (HCZ.out) (by first | (simp; done) | exact HNS.out | exact HNW.out | (intro hm; have hlt := HSB.out _ hm; (try dsimp only at hlt); omega))
          go_simp
          (try (first | with_reducible rfl | (apply And.intro <;> rfl)))
        simp only [Act.put, List.setIfInBounds_toArray, List.set_cons_zero, List.set_cons_succ]
        refine run_at (i := 6) (v := ?_) rfl (by kernel_rfl) (by rfl) (fun _ _ _ h => h) hHeld (fun w1 hw1 => ?_) ?_
        rotate_left 1
        · skip
          go_simp
          (try (first | with_reducible rfl | (apply And.intro <;> rfl)))
        simp only [Act.put, List.setIfInBounds_toArray, List.set_cons_zero, List.set_cons_succ]
        refine run_at (i := 7) (v := ?_) rfl (by kernel_rfl) (by rfl) (fun _ _ _ h => h) hHeld (fun w1 hw1 => ?_) ?_
        rotate_left 1
        · skip
          go_simp
          (try (first | with_reducible rfl | (apply And.intro <;> rfl)))
        simp only [Act.put, List.setIfInBounds_toArray, List.set_cons_zero, List.set_cons_succ]
        refine run_at (i := 8) (v := ?_) rfl (by kernel_rfl) (by rfl) (fun _ _ _ h => h) hHeld (fun w1 hw1 => ?_) ?_
        rotate_left 1
        · skip
          go_simp
          (try (first | with_reducible rfl | (apply And.intro <;> rfl)))
        simp only [Act.put, List.setIfInBounds_toArray, List.set_cons_zero, List.set_cons_succ]
        refine run_at (i := 9) (v := ?_) rfl (by kernel_rfl) (by rfl) (fun _ _ _ h => h) hHeld (fun w1 hw1 => ?_) ?_
        rotate_left 1
        · skip
          have hcw0 := hw1.cell (HC1.out) (by first | (simp; done) | exact HNS.out | exact HNW.out | (intro hm; have hlt := HSB.out _ hm; (try dsimp only at hlt); omega))
          go_simp
          (try (first | with_reducible rfl | (apply And.intro <;> rfl)))
        simp only [Act.put, List.setIfInBounds_toArray, List.set_cons_zero, List.set_cons_succ]
        refine run_at (i := 10) (v := ?_) rfl (by kernel_rfl) (by rfl) (fun _ _ _ h => h) hHeld (fun w1 hw1 => ?_) ?_
        rotate_left 1
        · skip
          go_simp
          (try (first | with_reducible rfl | (apply And.intro <;> rfl)))
        simp only [Act.put, List.setIfInBounds_toArray, List.set_cons_zero, List.set_cons_succ]
        refine run_at (i := 11) (v := ?_) rfl (by kernel_rfl) (by rfl) (fun _ _ _ h => h) hHeld (fun w1 hw1 => ?_) ?_
        rotate_left 1
        · skip
          go_simp
          (try (first | with_reducible rfl | (apply And.intro <;> rfl)))
        simp only [Act.put, List.setIfInBounds_toArray, List.set_cons_zero, List.set_cons_succ]
        refine run_at (i := 12) (v := ?_) rfl (by kernel_rfl) (by rfl) (fun _ _ _ h => h) hHeld (fun w1 hw1 => ?_) ?_
        rotate_left 1
        · skip
          go_simp
          (try (first | with_reducible rfl | (apply And.intro <;> rfl)))
        simp only [Act.put, List.setIfInBounds_toArray, List.set_cons_zero, List.set_cons_succ]
        refine run_at (i := 13) (v := ?_) rfl (by kernel_rfl) (by rfl) (fun _ _ _ h => h) hHeld (fun w1 hw1 => ?_) ?_
        rotate_left 1
        · skip
          go_simp
          (try (first | with_reducible rfl | (apply And.intro <;> rfl)))
        simp only [Act.put, List.setIfInBounds_toArray, List.set_cons_zero, List.set_cons_succ]
        refine run_at (i := 14) (v := ?_) rfl (by kernel_rfl) (by rfl) (fun _ _ _ h => h) hHeld (fun w1 hw1 => ?_) ?_
        rotate_left 1
        · skip
          go_simp
          (try (first | with_reducible rfl | (apply And.intro <;> rfl)))
        simp only [Act.put, List.setIfInBounds_toArray, List.set_cons_zero, List.set_cons_succ]
        refine run_at (i := 15) (v := ?_) rfl (by kernel_rfl) (by rfl) (fun _ _ _ h => h) hHeld (fun w1 hw1 => ?_) ?_
        rotate_left 1
        · skip
          go_simp
          (try (first | with_reducible rfl | (apply And.intro <;> rfl)))
        simp only [Act.put, List.setIfInBounds_toArray, List.set_cons_zero, List.set_cons_succ]
        refine run_at (i := 16) (v := ?_) rfl (by kernel_rfl) (by rfl) (fun _ _ _ h => h) hHeld (fun w1 hw1 => ?_) ?_
        rotate_left 1
        · skip
          go_simp
          (try (first | with_reducible rfl | (apply And.intro <;> rfl)))
        simp only [Act.put, List.setIfInBounds_toArray, List.set_cons_zero, List.set_cons_succ]
        refine run_at (i := 17) (v := ?_) rfl (by kernel_rfl) (by rfl) (fun _ _ _ h => h) hHeld (fun w1 hw1 => ?_) ?_
        rotate_left 1
        · skip
          have hcw0 := hw1.cell (HCZ.out) (by first | (simp; done) | exact HNS.out | exact HNW.out | (intro hm; have hlt := HSB.out _ hm; (try dsimp only at hlt); omega))
          go_simp
          (try (first | with_reducible rfl | (apply And.intro <;> rfl)))
        simp only [Act.put, List.setIfInBounds_toArray, List.set_cons_zero, List.set_cons_succ]
        refine run_at (i := 18) (v := ?_) rfl (by kernel_rfl) (by rfl) (fun _ _ _ h => h) hHeld (fun w1 hw1 => ?_) ?_
        rotate_left 1
        · skip
          go_simp
          (try (first | with_reducible rfl | (apply And.intro <;> rfl)))
        simp only [Act.put, List.setIfInBounds_toArray, List.set_cons_zero, List.set_cons_succ]
        refine row_at (i := 20) rfl (by kernel_rfl) (by rfl) _ _ rfl _ _ rfl _ (fun w1 hw1 => hw1.range (HG4.out.range) (by first | (simp; done) | exact HNS.out | exact HNW.out | (intro hm; have hlt := HSB.out _ hm; (try dsimp only at hlt); omega))) (row_sg1) (fun _ _ _ h => h) hHeld ?_
        simp only [Act.put, List.setIfInBounds_toArray, List.set_cons_zero, List.set_cons_succ]
        refine call_at (i := 19) (f := ?_) (args := ?_) rfl (by kernel_rfl) (by rfl) ?_ ?_
        rotate_left 2
        · go_simp
          (try (first | with_reducible rfl | (apply And.intro <;> rfl)))
        refine HSGN.out.mono ?_
        rintro e_ w5 ⟨rfl, hb5, hf5⟩
        have HB5 := Lib.hid hb5
        refine ⟨_, rfl, hHeld.trans hf5 (fun x hx _ => hx), fun hHeld => ?_⟩
        clear hb5 hf5
        simp only [Act.put, List.setIfInBounds_toArray, List.set_cons_zero, List.set_cons_succ]
        refine neq_at (i := 21) rfl (by kernel_rfl) (by rfl) _ _ _ _ rfl _ _ rfl rfl _ (by kernel_rfl) (HEQ.out) (fun _ _ _ h => h) hHeld ?_
        simp only [Act.put, List.setIfInBounds_toArray, List.set_cons_zero, List.set_cons_succ]
        rw [show (!true) = false from rfl]
        refine run_at (i := 22) (v := ?_) rfl (by kernel_rfl) (by rfl) (fun _ _ _ h => h) hHeld (fun w1 hw1 => ?_) ?_
        rotate_left 1
        · skip
          go_simp
          (try (first | with_reducible rfl | (apply And.intro <;> rfl)))
        simp only [Act.put, List.setIfInBounds_toArray, List.set_cons_zero, List.set_cons_succ]
        refine wpAnyH_done (by kernel_rfl) ?_ _
        have HG5 := Lib.hid (HG4.out.keep hHeld HNS.out)
        have HO12 := Lib.hid (own_keep HO12.out hHeld (fun x hx => (HAP.out x (by rw [bk_mem] at hx; exact hx)).1))
        have HO13 := Lib.hid (own_keep HO13.out hHeld (fun x hx => HAP13.out x (by rw [bk_mem] at hx; exact hx)))
        have HROK := Lib.hid (HROK.out.keep (S' := S ++ bk A12 ++ bk A13) hHeld (fun r hr x hx hin => (HROK.out r hr).2 x hx (by simp [hin])) (fun x hx _ => hx))
        have HNA := Lib.hid (own_keep HNA.out hHeld (fun x hx hin => by rw [bk_mem] at hx; have h1 := (HA2.out x hx).1; have h2 := HLTS.out x hin; omega))
        have HF5 : Hid (Fr [] w w5) := Lib.hid (HF4.out.go hHeld (fun x hx => HGE.out x (by simp [hx])))
        have HS5 : Hid (w4.heap.size ≤ w5.heap.size) := Lib.hid hHeld.size
        clear hHeld HB4 HG4 HF4 HC0 HC1 HCZ HSGN HEQ hm1
        have HD1 : Hid (∀ u ∈ sgc (z, mm), u.oneCell' = true) := Lib.hid (by intro u hu; simp [sgc] at hu; rcases hu with rfl | rfl <;> rfl)
        go_wp2_with (first | (refine wpList_row rfl 30 _ rfl _ _ rfl _ HG5.out.range row_sg1 ?_) | (refine wpList_build_one rfl 26 30 _ rfl Try.underlying26 (sgc (z, mm)) 16 el_sg rfl (by decide) (by decide) ?_) | (at_builtin; refine Stop.mk ?_))
        refine Stop.go ?_
        refine wpList_append_el rfl _ _ 26 30 rfl Try.underlying26 2 16 el_sg (by decide) 0 (.slice A12 k c12) k _ (sgc (z, mm)) rfl (HO12.out.alloc _) (Nat.zero_le _) rfl HD1.out w5.heap.size 30 rfl (Blk.new _ _ _) (by omega) (by decide) ?_
        intro A9 c9 w9 ho9 hf9 hb9
        have HO9 := Lib.hid ho9
        have HF9 : Hid (Fr (bk A12) (w5.alloc (Obj.cells (sgc (z, mm)).toArray 30)) w9) := Lib.hid (by rw [← bk_own A12 k c12]; exact hf9)
        have HB9 : Hid (∀ q ∈ bk A9, q ∈ bk A12 ∨ q = w5.heap.size + 1) := Lib.hid (by
          intro q hq
          rw [← bk_own A9 (k + 1) c9] at hq
          rcases hb9 with h | h
          · rw [h, bk_own] at hq; exact .inl hq
          · rw [h] at hq; simp at hq; exact .inr hq)
        have HS9 : Hid (w5.heap.size + 1 ≤ w9.heap.size) := Lib.hid (by have := hf9.size; simpa using this)
        have HF59 : Hid (Fr (bk A12) w5 w9) := Lib.hid ((((Fr.refl [] w5).alloc _).mono (T := bk A12) (by simp)).trans HF9.out (fun x hx _ => hx))
        clear ho9 hf9 hb9 HF9
        have HO13 := Lib.hid (own_keep HO13.out HF59.out (fun x hx hin => by rw [bk_mem] at hx; exact (HAP.out x hin).2 hx))
        have HROK := Lib.hid (HROK.out.keep (S' := S ++ bk A12 ++ bk A13) HF59.out (fun r hr x hx hin => (HROK.out r hr).2 x hx (by simp [hin])) (fun x hx _ => hx))
        have HNA := Lib.hid (own_keep HNA.out HF59.out (fun x hx hin => by rw [bk_mem] at hx; have h1 := (HA2.out x hx).1; have h2 := HLT12.out x hin; omega))
        have HB5 := Lib.hid (HB5.out.keep HF59.out (fun x hx hin => (HAP.out x hin).1 hx))
        have HRD1 : Hid (∀ u ∈ ([Value.slice A2 t.length c2] : List Value), u.oneCell' = true) := Lib.hid (by intro u hu; rw [List.mem_singleton.1 hu]; rfl)
        go_wp2_with (at_builtin; refine Stop.mk ?_)
        refine Stop.go ?_
        refine wpList_append_el rfl _ _ 22 27 rfl Try.underlying22 1 24 el_row (by decide) 0 (.slice A13 k c13) k _ [.slice A2 t.length c2] rfl (HO13.out.alloc _) (Nat.zero_le _) rfl HRD1.out w9.heap.size 27 rfl (Blk.new _ _ _) (by omega) (by decide) ?_
        intro A8 c8 w8 ho8 hf8 hb8
        have HO8 := Lib.hid ho8
        have HB8 : Hid (∀ q ∈ bk A8, q ∈ bk A13 ∨ q = w9.heap.size + 1) := Lib.hid (by
          intro q hq
          rw [← bk_own A8 (k + 1) c8] at hq
          rcases hb8 with h | h
          · rw [h, bk_own] at hq; exact .inl hq
          · rw [h] at hq; simp at hq; exact .inr hq)
        have HF89 : Hid (Fr (bk A13) w9 w8) := Lib.hid ((((Fr.refl [] w9).alloc _).mono (T := bk A13) (by simp)).trans (T := bk A13) (by rw [bk_own A13 k c13] at hf8; exact hf8) (fun x hx _ => hx))
        clear ho8 hf8 hb8
        have HA9 : Hid (∀ x ∈ bk A9, ¬ x ∈ bk A13) := Lib.hid (fun x hx hin => by
          rcases HB9.out x hx with h | h
          · exact (HAP.out x h).2 hin
          · have h1 := HLT13.out x hin; have h2 := HS2.out; have h3 := HS4.out; have h4 := HS5.out; omega)
        have HO9 := Lib.hid (own_keep HO9.out HF89.out (fun x hx => HA9.out x (by rw [bk_mem] at hx; exact hx)))
        have HROK8 := Lib.hid (HROK.out.keep (S' := S ++ bk A12 ++ bk A13) HF89.out (fun r hr x hx hin => (HROK.out r hr).2 x hx (by simp [hin])) (fun x hx _ => hx))
        have HNA := Lib.hid (own_keep HNA.out HF89.out (fun x hx hin => by rw [bk_mem] at hx; have h1 := (HA2.out x hx).1; have h2 := HLT13.out x hin; omega))
        have HB8K := Lib.hid (HB5.out.keep HF89.out (fun x hx hin => HAP13.out x hin hx))
        have HF8 : Hid (Fr [] w w8) := Lib.hid ((HF5.out.go HF59.out (fun x hx => HGE.out x (by simp [hx]))).go HF89.out (fun x hx => HGE.out x (by simp [hx])))
        go_wp2
        go_roundw
        case rel =>
          have s2 := HS2.out
          have s4 := HS4.out
          have s5 := HS5.out
          have s9 := HS9.out
          refine ⟨⟨k + 1, A9, c9, A8, c8, es ++ [(z, t)], rs ++ [⟨A2, t.length, c2, t⟩], by omega, rfl, rfl, by simp [hel], Lib.hid ?_, Lib.hid ?_, Lib.hid ?_, Lib.hid ?_, Lib.hid ?_, Lib.hid ?_, Lib.hid ?_, Lib.hid ?_, Lib.hid ?_, HF8, Lib.hid ?_⟩, k + 1, by omega, by omega, by omega, by go_num, _, _, rfl⟩
          · rw [List.map_append, List.map_append, HRB.out]; rfl
          · intro r hr
            rcases List.mem_append.1 hr with h | h
            · exact HRN.out r h
            · rw [List.mem_singleton.1 h]; exact H30.out
          · intro e he
            rcases List.mem_append.1 he with h | h
            · exact HEI.out e h
            · rw [List.mem_singleton.1 h]; exact HZI.out
          · rw [bookOf_snoc, ← HLE.out]; exact HB8K.out
          · rw [sgs_snoc, List.flatMap_append, List.flatMap_singleton, ← HLE.out, ← HMM.out]; exact HO9.out
          · rw [List.map_append]; exact HO8.out
          · intro r hr
            have hnew : ∀ x, x < w5.heap.size → ¬ x ∈ S → ¬ x ∈ bk A12 → ¬ x ∈ bk A13 → ¬ x ∈ S ++ bk A9 ++ bk A8 := fun x h1 h2 h3 h4 hin => by
              simp only [List.mem_append] at hin
              rcases hin with (h | h) | h
              · exact h2 h
              · rcases HB9.out x h with h | h
                · exact h3 h
                · omega
              · rcases HB8.out x h with h | h
                · exact h4 h
                · omega
            rcases List.mem_append.1 hr with h | h
            · refine ⟨(HROK8.out r h).1, fun x hx => ?_⟩
              have h1 := (HROK8.out r h).2 x hx
              simp only [List.mem_append, not_or] at h1
              exact hnew x (by have := HLTR.out r h x hx; omega) h1.1.1 h1.1.2 h1.2
            · rw [List.mem_singleton.1 h]
              refine ⟨HNA.out, fun x hx => ?_⟩
              have h1 := HA2.out x hx
              exact hnew x (by omega) (fun hin => by have := HLTS.out x hin; omega) (fun hin => by have := HLT12.out x hin; omega) (fun hin => by have := HLT13.out x hin; omega)
          · intro x hx
            rcases HB9.out x hx with h | h
            · refine ⟨(HAP.out x h).1, fun hin => ?_⟩
              rcases HB8.out x hin with h2 | h2
              · exact (HAP.out x h).2 h2
              · have := HLT12.out x h; omega
            · refine ⟨fun hin => by have := HLTS.out x hin; omega, fun hin => ?_⟩
              rcases HB8.out x hin with h2 | h2
              · have := HLT13.out x h2; omega
              · omega
          · intro x hx hin
            rcases HB8.out x hx with h | h
            · exact HAP13.out x h hin
            · have := HLTS.out x hin; omega
          · intro x hx
            simp only [List.mem_append] at hx
            have s0 := HF5.out.size
            rcases hx with (h | h) | h
            · exact HGE.out x (by simp [h])
            · rcases HB9.out x h with h2 | h2
              · exact HGE.out x (by simp [h2])
              · omega
            · rcases HB8.out x h with h2 | h2
              · exact HGE.out x (by simp [h2])
              · omega
        case measure => simp [intOf]; omega
      · have hkx : (n : Int) ≤ k ∨ (m : Int) ≤ k ∨ (10 : Int) ≤ k := by omega
        rcases hkx with hkx | hkx | hkx
        all_goals
          go_wp2_with fail
          all_goals
            go_meet
            exact ⟨k, A12, c12, A13, c13, es, rs, hk10, rfl, rfl, hel, HRB, HRN, HEI, HB, HO12, HO13, HROK, HAP, HAP13, HF, HGE⟩
  case rest =>
    obtain ⟨N, A12, c12, A13, c13, es, rs, hN, rfl, rfl, hel, HRB, HRN, HEI, HB, HO12, HO13, HROK, -, -, HF, -⟩ := hcut
    have hLS : Lst 2 sgc (fun _ _ => True) wc A12 N (sgs es) := Lst.of_own HO12.out (by simp [sgs, hel]) (fun v _ => ⟨rfl, trivial⟩)
    have hrl : rs.length = N := by have h := congrArg List.length HRB.out; simpa [hel] using h
    have hLR : Lst 1 (fun r => [RowV.val r]) (fun _ _ => True) wc A13 N rs := Lst.of_own (by rw [flat_one]; exact HO13.out) hrl (fun v _ => ⟨rfl, trivial⟩)
    have HLB := Lib.hid (bookOf_len es)
    obtain ⟨L, hLL⟩ : ∃ L, L = bookOf es := ⟨_, rfl⟩
    have hpick : ∀ i, i < N → ∃ (b : Int) (t : List UInt8) (r : RowV) (ad ar : Addr), A12 = some ad ∧ A13 = some ar ∧ (b, t) ∈ L ∧ (Lit.int .i64 b).wf = true ∧ r.n ≤ 30 ∧ By wc r.A r.n t ∧ wc.cell? (ar.add i) = some (.slice r.A r.n r.c) ∧ wc.cell? (ad.add (i * 2)) = some (.int .i64 b) ∧ wc.cell? ⟨(ad.add (i * 2)).block, (ad.add (i * 2)).off + 1, none⟩ = some (.int .i64 (mrk L (b, t))) ∧ (∀ j v, ([.int .i64 b, .int .i64 (mrk L (b, t))] : List Value)[j]? = some v → wc.cell? ((ad.add (i * 2)).add j) = some v) := by
      intro i hi
      obtain ⟨ad, v, h1, h2, -, -, h3⟩ := hLS.at (i := i) hi
      obtain ⟨ar, r, k1, k2, -, -, k3⟩ := hLR.at (i := i) hi
      have he : ∃ e, es[i]? = some e := ⟨_, List.getElem?_eq_getElem (by rw [hel]; exact hi)⟩
      obtain ⟨⟨b, t⟩, he⟩ := he
      have hv : v = (b, mrk L (b, t)) := by
        unfold sgs at h2
        rw [List.getElem?_map, he] at h2
        rw [hLL]
        simpa using h2.symm
      subst hv
      have hrb : r.b = t := by
        have h := congrArg (fun l => l[i]?) HRB.out
        simp only [List.getElem?_map, k2, he, Option.map_some] at h
        injection h
      have hm := List.mem_of_getElem? he
      have hrm := List.mem_of_getElem? k2
      refine ⟨b, t, r, ad, ar, h1, k1, by rw [hLL]; exact mem_bookOf es hm, HEI.out _ hm, HRN.out r hrm, ?_, ?_, h3 0 _ rfl, h3 1 _ rfl, h3⟩
      · rw [← hrb]; exact By.of_own (HROK.out r hrm).1
      · have h := k3 0 _ rfl
        simpa [Addr.add, RowV.val] using h
    have hL10 : L.length ≤ 10 := by have h := HLB.out; rw [hLL]; omega
    have hL0 : N = 0 → L = [] := fun h0 => by subst h0; rw [hLL, List.eq_nil_of_length_eq_zero hel]; rfl
    rw [← hLL] at HB
    have HPK := Lib.hid hpick
    have HL10 := Lib.hid hL10
    have HL0 := Lib.hid hL0
    have HNN := Lib.hid hN
    clear hLS hLR hrl hpick hL10 hL0 hLL HRB HRN HEI HO12 HO13 HROK hel HLB HL HZ HSG HB1 HF1 hN
    go_wp2
    go_loopw [86] (fun i wr => ∃ j : Nat, j ≤ N ∧ i = .int .i64 j ∧ Hid (Fr [] wc wr)) (fun i _ => N - (intOf i).toNat)
    case atStart => exact ⟨0, by omega, rfl, Lib.hid (Fr.refl _ _)⟩
    case round =>
      obtain ⟨j, hj, rfl, HFR⟩ := hrel
      have hnn := HNN.out
      by_cases hlt : j < N
      · obtain ⟨b1, t1, r1, ad, ar, hA1, hA2, hm1, hw1, hn1, hy1, hrc1, hc1, hd1, hs1⟩ := HPK.out j hlt
        have HA12 := Lib.hid hA1
        have HA13 := Lib.hid hA2
        have HM1 := Lib.hid hm1
        have HW1 := Lib.hid hw1
        have HN1 := Lib.hid hn1
        have HY1 := Lib.hid hy1
        have HR1 := Lib.hid hrc1
        have HC1 := Lib.hid hc1
        have HX1 := Lib.hid hs1
        have hj0 : (0 : Int) ≤ j := by omega
        clear hA1 hA2 hm1 hw1 hn1 hy1 hrc1 hc1 hd1 hs1
        go_wp2
        go_loopw [91] (fun i wr => ∃ h : Nat, h ≤ N ∧ i = .int .i64 h ∧ Hid (Fr [] wc wr)) (fun i _ => N - (intOf i).toNat)
        case atStart => exact ⟨0, by omega, rfl, HFR⟩
        case round =>
          obtain ⟨h, hh, rfl, HFI⟩ := hrel
          by_cases hlt2 : h < N
          · obtain ⟨b2, t2, r2, ad', ar', hA1, hA2, hm2, hw2, hn2, hy2, hrc2, hc2, hd2, hs2⟩ := HPK.out h hlt2
            obtain rfl : ad = ad' := by have e := HA12.out; rw [hA1] at e; injection e with e; exact e.symm
            obtain rfl : ar = ar' := by have e := HA13.out; rw [hA2] at e; injection e with e; exact e.symm
            have HM2 := Lib.hid hm2
            have HN2 := Lib.hid hn2
            have HY2 := Lib.hid hy2
            have HR2 := Lib.hid hrc2
            have HC2 := Lib.hid hc2
            have HX2 := Lib.hid hs2
            have hh0 : (0 : Int) ≤ h := by omega
            have HH1 : Hid (h + 1 ≤ N) := Lib.hid (by omega)
            clear hA1 hA2 hm2 hw2 hn2 hy2 hrc2 hc2 hd2 hs2
            have HA12' := HA12.out
            have HA13' := HA13.out
            go_upto_region 20 with (fail)
            skip
            by_cases hbb : b1 = b2
            · subst hbb
              refine wp_region_held_drew (S := Fr [] wc) (by kernel_rfl) (HFI.out.drew) (fun hHeld => ?_)
              generalize wr.drew = x0 at *
              refine run_at (i := 0) (v := ?_) rfl (by kernel_rfl) (by rfl) (fun _ _ _ h => h) hHeld (fun w1 hw1 => ?_) ?_
              rotate_left 1
              · skip
                go_simp
                (try (first | with_reducible rfl | (apply And.intro <;> rfl)))
              simp only [Act.put, List.setIfInBounds_toArray, List.set_cons_zero, List.set_cons_succ]
              refine run_at (i := 1) (v := ?_) rfl (by kernel_rfl) (by rfl) (fun _ _ _ h => h) hHeld (fun w1 hw1 => ?_) ?_
              rotate_left 1
              · skip
                go_simp
                (try (first | with_reducible rfl | (apply And.intro <;> rfl)))
              simp only [Act.put, List.setIfInBounds_toArray, List.set_cons_zero, List.set_cons_succ]
              refine run_at (i := 2) (v := ?_) rfl (by kernel_rfl) (by rfl) (fun _ _ _ h => h) hHeld (fun w1 hw1 => ?_) ?_
              rotate_left 1
              · skip
                go_simp
                (try (first | with_reducible rfl | (apply And.intro <;> rfl)))
              simp only [Act.put, List.setIfInBounds_toArray, List.set_cons_zero, List.set_cons_succ]
              refine run_at (i := 3) (v := ?_) rfl (by kernel_rfl) (by rfl) (fun _ _ _ h => h) hHeld (fun w1 hw1 => ?_) ?_
              rotate_left 1
              · skip
                go_simp
                (try (first | with_reducible rfl | (apply And.intro <;> rfl)))
              simp only [Act.put, List.setIfInBounds_toArray, List.set_cons_zero, List.set_cons_succ]
              refine run_at (i := 4) (v := ?_) rfl (by kernel_rfl) (by rfl) (fun _ _ _ h => h) hHeld (fun w1 hw1 => ?_) ?_
              rotate_left 1
              · skip
                have hcw0 := hw1.cell (HC1.out) (by first | (simp; done) | exact HNS.out | exact HNW.out | (intro hm; have hlt := HSB.out _ hm; (try dsimp only at hlt); omega))
                go_simp
                (try (first | with_reducible rfl | (apply And.intro <;> rfl)))
              simp only [Act.put, List.setIfInBounds_toArray, List.set_cons_zero, List.set_cons_succ]
              refine run_at (i := 5) (v := ?_) rfl (by kernel_rfl) (by rfl) (fun _ _ _ h => h) hHeld (fun w1 hw1 => ?_) ?_
              rotate_left 1
              · skip
                go_simp
                (try (first | with_reducible rfl | (apply And.intro <;> rfl)))
              simp only [Act.put, List.setIfInBounds_toArray, List.set_cons_zero, List.set_cons_succ]
              refine run_at (i := 6) (v := ?_) rfl (by kernel_rfl) (by rfl) (fun _ _ _ h => h) hHeld (fun w1 hw1 => ?_) ?_
              rotate_left 1
              · skip
                go_simp
                (try (first | with_reducible rfl | (apply And.intro <;> rfl)))
              simp only [Act.put, List.setIfInBounds_toArray, List.set_cons_zero, List.set_cons_succ]
              refine run_at (i := 7) (v := ?_) rfl (by kernel_rfl) (by rfl) (fun _ _ _ h => h) hHeld (fun w1 hw1 => ?_) ?_
              rotate_left 1
              · skip
                go_simp
                (try (first | with_reducible rfl | (apply And.intro <;> rfl)))
              simp only [Act.put, List.setIfInBounds_toArray, List.set_cons_zero, List.set_cons_succ]
              refine run_at (i := 8) (v := ?_) rfl (by kernel_rfl) (by rfl) (fun _ _ _ h => h) hHeld (fun w1 hw1 => ?_) ?_
              rotate_left 1
              · skip
                go_simp
                (try (first | with_reducible rfl | (apply And.intro <;> rfl)))
              simp only [Act.put, List.setIfInBounds_toArray, List.set_cons_zero, List.set_cons_succ]
              refine run_at (i := 9) (v := ?_) rfl (by kernel_rfl) (by rfl) (fun _ _ _ h => h) hHeld (fun w1 hw1 => ?_) ?_
              rotate_left 1
              · skip
                have hcw0 := hw1.cell (HC2.out) (by first | (simp; done) | exact HNS.out | exact HNW.out | (intro hm; have hlt := HSB.out _ hm; (try dsimp only at hlt); omega))
                go_simp
                (try (first | with_reducible rfl | (apply And.intro <;> rfl)))
              simp only [Act.put, List.setIfInBounds_toArray, List.set_cons_zero, List.set_cons_succ]
              refine run_at (i := 10) (v := ?_) rfl (by kernel_rfl) (by rfl) (fun _ _ _ h => h) hHeld (fun w1 hw1 => ?_) ?_
              rotate_left 1
              · skip
                go_simp
                (try (first | with_reducible rfl | (apply And.intro <;> rfl)))
              simp only [Act.put, List.setIfInBounds_toArray, List.set_cons_zero, List.set_cons_succ]
              refine run_at (i := 11) (v := ?_) rfl (by kernel_rfl) (by rfl) (fun _ _ _ h => h) hHeld (fun w1 hw1 => ?_) ?_
              rotate_left 1
              · skip
                go_simp
                (try (first | with_reducible rfl | (apply And.intro <;> rfl)))
              simp only [Act.put, List.setIfInBounds_toArray, List.set_cons_zero, List.set_cons_succ]
              refine run_at (i := 12) (v := ?_) rfl (by kernel_rfl) (by rfl) (fun _ _ _ h => h) hHeld (fun w1 hw1 => ?_) ?_
              rotate_left 1
              · skip
                go_simp
                (try (first | with_reducible rfl | (apply And.intro <;> rfl)))
              simp only [Act.put, List.setIfInBounds_toArray, List.set_cons_zero, List.set_cons_succ]
              refine run_at (i := 13) (v := ?_) rfl (by kernel_rfl) (by rfl) (fun _ _ _ h => h) hHeld (fun w1 hw1 => ?_) ?_
              rotate_left 1
              · skip
                go_simp
                (try (first | with_reducible rfl | (apply And.intro <;> rfl)))
              simp only [Act.put, List.setIfInBounds_toArray, List.set_cons_zero, List.set_cons_succ]
              refine run_at (i := 14) (v := ?_) rfl (by kernel_rfl) (by rfl) (fun _ _ _ h => h) hHeld (fun w1 hw1 => ?_) ?_
              rotate_left 1
              · skip
                go_simp
                (try (first | with_reducible rfl | (apply And.intro <;> rfl)))
              simp only [Act.put, List.setIfInBounds_toArray, List.set_cons_zero, List.set_cons_succ]
              refine run_at (i := 15) (v := ?_) rfl (by kernel_rfl) (by rfl) (fun _ _ _ h => h) hHeld (fun w1 hw1 => ?_) ?_
              rotate_left 1
              · skip
                have hcw0 := hw1.cell (HR1.out) (by first | (simp; done) | exact HNS.out | exact HNW.out | (intro hm; have hlt := HSB.out _ hm; (try dsimp only at hlt); omega))
                go_simp
                (try (first | with_reducible rfl | (apply And.intro <;> rfl)))
              simp only [Act.put, List.setIfInBounds_toArray, List.set_cons_zero, List.set_cons_succ]
              refine run_at (i := 16) (v := ?_) rfl (by kernel_rfl) (by rfl) (fun _ _ _ h => h) hHeld (fun w1 hw1 => ?_) ?_
              rotate_left 1
              · skip
                go_simp
                (try (first | with_reducible rfl | (apply And.intro <;> rfl)))
              simp only [Act.put, List.setIfInBounds_toArray, List.set_cons_zero, List.set_cons_succ]
              refine run_at (i := 17) (v := ?_) rfl (by kernel_rfl) (by rfl) (fun _ _ _ h => h) hHeld (fun w1 hw1 => ?_) ?_
              rotate_left 1
              · skip
                go_simp
                (try (first | with_reducible rfl | (apply And.intro <;> rfl)))
              simp only [Act.put, List.setIfInBounds_toArray, List.set_cons_zero, List.set_cons_succ]
              refine run_at (i := 18) (v := ?_) rfl (by kernel_rfl) (by rfl) (fun _ _ _ h => h) hHeld (fun w1 hw1 => ?_) ?_
              rotate_left 1
              · skip
                go_simp
                (try (first | with_reducible rfl | (apply And.intro <;> rfl)))
              simp only [Act.put, List.setIfInBounds_toArray, List.set_cons_zero, List.set_cons_succ]
              refine run_at (i := 19) (v := ?_) rfl (by kernel_rfl) (by rfl) (fun _ _ _ h => h) hHeld (fun w1 hw1 => ?_) ?_
              rotate_left 1
              · skip
                have hcw0 := hw1.cell (HR2.out) (by first | (simp; done) | exact HNS.out | exact HNW.out | (intro hm; have hlt := HSB.out _ hm; (try dsimp only at hlt); omega))
                go_simp
                (try (first | with_reducible rfl | (apply And.intro <;> rfl)))
              simp only [Act.put, List.setIfInBounds_toArray, List.set_cons_zero, List.set_cons_succ]
              refine call_at (i := 20) (f := ?_) (args := ?_) rfl (by kernel_rfl) (by rfl) ?_ ?_
              rotate_left 2
              · go_simp
                (try (first | with_reducible rfl | (apply And.intro <;> rfl)))
              refine (same_any r1.A r2.A r1.n r2.n r1.c r2.c t1 t2 x0 (HY1.out.keep hHeld (by simp)) (HY2.out.keep hHeld (by simp)) (by have := HN1.out; omega)).mono ?_
              rintro e_ x1 ⟨rfl, kk, rfl⟩
              refine ⟨_, rfl, hHeld.drewN kk, fun hHeld => ?_⟩
              generalize x0.drewN kk = x1 at *
              simp only [Act.put, List.setIfInBounds_toArray, List.set_cons_zero, List.set_cons_succ]
              refine run_at (i := 21) (v := ?_) rfl (by kernel_rfl) (by rfl) (fun _ _ _ h => h) hHeld (fun w1 hw1 => ?_) ?_
              rotate_left 1
              · skip
                go_simp
                (try (first | with_reducible rfl | (apply And.intro <;> rfl)))
              simp only [Act.put, List.setIfInBounds_toArray, List.set_cons_zero, List.set_cons_succ]
              refine run_at (i := 22) (v := ?_) rfl (by kernel_rfl) (by rfl) (fun _ _ _ h => h) hHeld (fun w1 hw1 => ?_) ?_
              rotate_left 1
              · skip
                go_simp
                (try (first | with_reducible rfl | (apply And.intro <;> rfl)))
              simp only [Act.put, List.setIfInBounds_toArray, List.set_cons_zero, List.set_cons_succ]
              refine wpAnyH_done (by kernel_rfl) ?_ _
              go_wp2_with fail
              have hEQ : ∀ W : World, (Op.equalIn 10000 30 (.agg #[.int .i64 b1, .int .i64 (mrk L (b1, t1))]) (.agg #[.int .i64 b1, .int .i64 (mrk L (b1, t2))])).run Try.prog W = .ok (decide (t1 = t2)) W := fun W => by
                have e := eql_sg b1 (mrk L (b1, t1)) b1 (mrk L (b1, t2)) W
                rw [e]
                congr 1
                rw [Bool.eq_iff_iff]
                simp only [decide_true, Bool.true_and, decide_eq_true_iff]
                exact ⟨fun e => by have := mrk_inj HM1.out HM2.out e; injection this, fun e => by rw [e]⟩
              have HEQ := Lib.hid hEQ
              have hrg := right_any
              clear hEQ hrg
              have HRG := Lib.hid (right_own (u := t2) HM1.out)
              have HSM := Lib.hid (fun (X : World) (h1 : Fr [] wc X) => same_any r1.A r2.A r1.n r2.n r1.c r2.c t1 t2 X (HY1.out.keep h1 (by simp)) (HY2.out.keep h1 (by simp)) (by have := HN1.out; omega))
              generalize mrk L (b1, t1) = m1 at *
              generalize mrk L (b1, t2) = m2 at *
              have HBX := HB.out.keep hHeld (by simp)
              refine wp_region_held_drew (S := Fr [] wc) (by kernel_rfl) (hHeld.drew) (fun hHeld => ?_)
              have HBX := Lib.hid (HB.out.keep hHeld (by simp))
              generalize x1.drew = x2 at *
              refine run_at (i := 0) (v := ?_) rfl (by kernel_rfl) (by rfl) (fun _ _ _ h => h) hHeld (fun w1 hw1 => ?_) ?_
              rotate_left 1
              · skip
                go_simp
                (try (first | with_reducible rfl | (apply And.intro <;> rfl)))
              simp only [Act.put, List.setIfInBounds_toArray, List.set_cons_zero, List.set_cons_succ]
              refine run_at (i := 1) (v := ?_) rfl (by kernel_rfl) (by rfl) (fun _ _ _ h => h) hHeld (fun w1 hw1 => ?_) ?_
              rotate_left 1
              · skip
                go_simp
                (try (first | with_reducible rfl | (apply And.intro <;> rfl)))
              simp only [Act.put, List.setIfInBounds_toArray, List.set_cons_zero, List.set_cons_succ]
              refine run_at (i := 2) (v := ?_) rfl (by kernel_rfl) (by rfl) (fun _ _ _ h => h) hHeld (fun w1 hw1 => ?_) ?_
              rotate_left 1
              · skip
                go_simp
                (try (first | with_reducible rfl | (apply And.intro <;> rfl)))
              simp only [Act.put, List.setIfInBounds_toArray, List.set_cons_zero, List.set_cons_succ]
              refine run_at (i := 3) (v := ?_) rfl (by kernel_rfl) (by rfl) (fun _ _ _ h => h) hHeld (fun w1 hw1 => ?_) ?_
              rotate_left 1
              · skip
                go_simp
                (try (first | with_reducible rfl | (apply And.intro <;> rfl)))
              simp only [Act.put, List.setIfInBounds_toArray, List.set_cons_zero, List.set_cons_succ]
              refine crow_at (i := 4) rfl (by kernel_rfl) (by rfl) _ _ rfl _ rfl _ (fun w1 hw1 j v hv => hw1.cell ((HX1.out) j v hv) (by simp)) (row_sg1) (fun _ _ _ h => h) hHeld ?_
              simp only [Act.put, List.setIfInBounds_toArray, List.set_cons_zero, List.set_cons_succ]
              refine run_at (i := 5) (v := ?_) rfl (by kernel_rfl) (by rfl) (fun _ _ _ h => h) hHeld (fun w1 hw1 => ?_) ?_
              rotate_left 1
              · skip
                go_simp
                (try (first | with_reducible rfl | (apply And.intro <;> rfl)))
              simp only [Act.put, List.setIfInBounds_toArray, List.set_cons_zero, List.set_cons_succ]
              refine run_at (i := 6) (v := ?_) rfl (by kernel_rfl) (by rfl) (fun _ _ _ h => h) hHeld (fun w1 hw1 => ?_) ?_
              rotate_left 1
              · skip
                go_simp
                (try (first | with_reducible rfl | (apply And.intro <;> rfl)))
              simp only [Act.put, List.setIfInBounds_toArray, List.set_cons_zero, List.set_cons_succ]
              refine run_at (i := 7) (v := ?_) rfl (by kernel_rfl) (by rfl) (fun _ _ _ h => h) hHeld (fun w1 hw1 => ?_) ?_
              rotate_left 1
              · skip
                go_simp
                (try (first | with_reducible rfl | (apply And.intro <;> rfl)))
              simp only [Act.put, List.setIfInBounds_toArray, List.set_cons_zero, List.set_cons_succ]
              refine run_at (i := 8) (v := ?_) rfl (by kernel_rfl) (by rfl) (fun _ _ _ h => h) hHeld (fun w1 hw1 => ?_) ?_
              rotate_left 1
              · skip
                have hcw0 := hw1.cell (HR2.out) (by first | (simp; done) | exact HNS.out | exact HNW.out | (intro hm; have hlt := HSB.out _ hm; (try dsimp only at hlt); omega))
                go_simp
                (try (first | with_reducible rfl | (apply And.intro <;> rfl)))
              simp only [Act.put, List.setIfInBounds_toArray, List.set_cons_zero, List.set_cons_succ]
              refine run_at (i := 10) (v := ?_) rfl (by kernel_rfl) (by rfl) (fun _ _ _ h => h) hHeld (fun w1 hw1 => ?_) ?_
              rotate_left 1
              · skip
                go_simp
                (try (first | with_reducible rfl | (apply And.intro <;> rfl)))
              simp only [Act.put, List.setIfInBounds_toArray, List.set_cons_zero, List.set_cons_succ]
              refine run_at (i := 11) (v := ?_) rfl (by kernel_rfl) (by rfl) (fun _ _ _ h => h) hHeld (fun w1 hw1 => ?_) ?_
              rotate_left 1
              · skip
                go_simp
                (try (first | with_reducible rfl | (apply And.intro <;> rfl)))
              simp only [Act.put, List.setIfInBounds_toArray, List.set_cons_zero, List.set_cons_succ]
              refine run_at (i := 12) (v := ?_) rfl (by kernel_rfl) (by rfl) (fun _ _ _ h => h) hHeld (fun w1 hw1 => ?_) ?_
              rotate_left 1
              · skip
                go_simp
                (try (first | with_reducible rfl | (apply And.intro <;> rfl)))
              simp only [Act.put, List.setIfInBounds_toArray, List.set_cons_zero, List.set_cons_succ]
              refine run_at (i := 13) (v := ?_) rfl (by kernel_rfl) (by rfl) (fun _ _ _ h => h) hHeld (fun w1 hw1 => ?_) ?_
              rotate_left 1
              · skip
                have hcw0 := hw1.cell (HR1.out) (by first | (simp; done) | exact HNS.out | exact HNW.out | (intro hm; have hlt := HSB.out _ hm; (try dsimp only at hlt); omega))
                go_simp
                (try (first | with_reducible rfl | (apply And.intro <;> rfl)))
              simp only [Act.put, List.setIfInBounds_toArray, List.set_cons_zero, List.set_cons_succ]
              refine run_at (i := 14) (v := ?_) rfl (by kernel_rfl) (by rfl) (fun _ _ _ h => h) hHeld (fun w1 hw1 => ?_) ?_
              rotate_left 1
              · skip
                go_simp
                (try (first | with_reducible rfl | (apply And.intro <;> rfl)))
              simp only [Act.put, List.setIfInBounds_toArray, List.set_cons_zero, List.set_cons_succ]
              refine run_at (i := 15) (v := ?_) rfl (by kernel_rfl) (by rfl) (fun _ _ _ h => h) hHeld (fun w1 hw1 => ?_) ?_
              rotate_left 1
              · skip
                go_simp
                (try (first | with_reducible rfl | (apply And.intro <;> rfl)))
              simp only [Act.put, List.setIfInBounds_toArray, List.set_cons_zero, List.set_cons_succ]
              refine run_at (i := 16) (v := ?_) rfl (by kernel_rfl) (by rfl) (fun _ _ _ h => h) hHeld (fun w1 hw1 => ?_) ?_
              rotate_left 1
              · skip
                go_simp
                (try (first | with_reducible rfl | (apply And.intro <;> rfl)))
              simp only [Act.put, List.setIfInBounds_toArray, List.set_cons_zero, List.set_cons_succ]
              refine run_at (i := 17) (v := ?_) rfl (by kernel_rfl) (by rfl) (fun _ _ _ h => h) hHeld (fun w1 hw1 => ?_) ?_
              rotate_left 1
              · skip
                have hcw0 := hw1.cell (HR2.out) (by first | (simp; done) | exact HNS.out | exact HNW.out | (intro hm; have hlt := HSB.out _ hm; (try dsimp only at hlt); omega))
                go_simp
                (try (first | with_reducible rfl | (apply And.intro <;> rfl)))
              simp only [Act.put, List.setIfInBounds_toArray, List.set_cons_zero, List.set_cons_succ]
              refine call_at (i := 9) (f := ?_) (args := ?_) rfl (by kernel_rfl) (by rfl) ?_ ?_
              rotate_left 2
              · go_simp
                (try (first | with_reducible rfl | (apply And.intro <;> rfl)))
              refine (right_any x2 S g L HBX.out b1 m1 HW1.out r2.A r2.n r2.c t2 (HY2.out.keep hHeld (by simp)) (by have := HN2.out; unfold maxLen; omega)).mono ?_
              rw [HRG.out]
              rintro e_ x3 ⟨rfl, hf⟩
              refine ⟨_, rfl, hHeld.and hf (by simp), fun hHeld => ?_⟩
              clear hf
              simp only [Act.put, List.setIfInBounds_toArray, List.set_cons_zero, List.set_cons_succ]
              have hsm := HSM.out x3 hHeld
              generalize hq : decide (t1 = t2) = q at *
              have hqq : (q != q) = false := by simp
              refine call_at (i := 18) (f := ?_) (args := ?_) rfl (by kernel_rfl) (by rfl) ?_ ?_
              rotate_left 2
              · go_simp
                (try (first | with_reducible rfl | (apply And.intro <;> rfl)))
              refine hsm.mono ?_
              rintro e_ x4 ⟨rfl, kk, rfl⟩
              clear hsm
              refine ⟨_, rfl, hHeld.drewN kk, fun hHeld => ?_⟩
              generalize x3.drewN kk = x4 at *
              simp only [Act.put, List.setIfInBounds_toArray, List.set_cons_zero, List.set_cons_succ]
              refine run_at (i := 19) (v := ?_) rfl (by kernel_rfl) (by rfl) (fun _ _ _ h => h) hHeld (fun w1 hw1 => ?_) ?_
              rotate_left 1
              · skip
                go_simp
                (try (first | with_reducible rfl | (apply And.intro <;> rfl)))
              simp only [Act.put, List.setIfInBounds_toArray, List.set_cons_zero, List.set_cons_succ]
              refine run_at (i := 20) (v := ?_) rfl (by kernel_rfl) (by rfl) (fun _ _ _ h => h) hHeld (fun w1 hw1 => ?_) ?_
              rotate_left 1
              · skip
                go_simp
                (try (first | with_reducible rfl | (apply And.intro <;> rfl)))
              simp only [Act.put, List.setIfInBounds_toArray, List.set_cons_zero, List.set_cons_succ]
              refine run_at (i := 21) (v := ?_) rfl (by kernel_rfl) (by rfl) (fun _ _ _ h => h) hHeld (fun w1 hw1 => ?_) ?_
              rotate_left 1
              · skip
                go_simp
                (try (first | with_reducible rfl | (apply And.intro <;> rfl)))
              simp only [Act.put, List.setIfInBounds_toArray, List.set_cons_zero, List.set_cons_succ]
              refine run_at (i := 22) (v := ?_) rfl (by kernel_rfl) (by rfl) (fun _ _ _ h => h) hHeld (fun w1 hw1 => ?_) ?_
              rotate_left 1
              · skip
                go_simp
                (try (first | with_reducible rfl | (apply And.intro <;> rfl)))
              simp only [Act.put, List.setIfInBounds_toArray, List.set_cons_zero, List.set_cons_succ]
              refine run_at (i := 23) (v := ?_) rfl (by kernel_rfl) (by rfl) (fun _ _ _ h => h) hHeld (fun w1 hw1 => ?_) ?_
              rotate_left 1
              · skip
                go_simp
                (try (first | with_reducible rfl | (apply And.intro <;> rfl)))
              simp only [Act.put, List.setIfInBounds_toArray, List.set_cons_zero, List.set_cons_succ]
              refine crow_at (i := 24) rfl (by kernel_rfl) (by rfl) _ _ rfl _ rfl _ (fun w1 hw1 j v hv => hw1.cell ((HX1.out) j v hv) (by simp)) (row_sg1) (fun _ _ _ h => h) hHeld ?_
              simp only [Act.put, List.setIfInBounds_toArray, List.set_cons_zero, List.set_cons_succ]
              refine run_at (i := 25) (v := ?_) rfl (by kernel_rfl) (by rfl) (fun _ _ _ h => h) hHeld (fun w1 hw1 => ?_) ?_
              rotate_left 1
              · skip
                go_simp
                (try (first | with_reducible rfl | (apply And.intro <;> rfl)))
              simp only [Act.put, List.setIfInBounds_toArray, List.set_cons_zero, List.set_cons_succ]
              refine run_at (i := 26) (v := ?_) rfl (by kernel_rfl) (by rfl) (fun _ _ _ h => h) hHeld (fun w1 hw1 => ?_) ?_
              rotate_left 1
              · skip
                go_simp
                (try (first | with_reducible rfl | (apply And.intro <;> rfl)))
              simp only [Act.put, List.setIfInBounds_toArray, List.set_cons_zero, List.set_cons_succ]
              refine run_at (i := 27) (v := ?_) rfl (by kernel_rfl) (by rfl) (fun _ _ _ h => h) hHeld (fun w1 hw1 => ?_) ?_
              rotate_left 1
              · skip
                go_simp
                (try (first | with_reducible rfl | (apply And.intro <;> rfl)))
              simp only [Act.put, List.setIfInBounds_toArray, List.set_cons_zero, List.set_cons_succ]
              refine crow_at (i := 28) rfl (by kernel_rfl) (by rfl) _ _ rfl _ rfl _ (fun w1 hw1 j v hv => hw1.cell ((HX2.out) j v hv) (by simp)) (row_sg1) (fun _ _ _ h => h) hHeld ?_
              simp only [Act.put, List.setIfInBounds_toArray, List.set_cons_zero, List.set_cons_succ]
              refine eql_at (i := 29) rfl (by kernel_rfl) (by rfl) _ _ _ _ rfl _ _ rfl rfl _ (by kernel_rfl) (HEQ.out) (fun _ _ _ h => h) hHeld ?_
              simp only [Act.put, List.setIfInBounds_toArray, List.set_cons_zero, List.set_cons_succ]
              refine run_at (i := 30) (v := ?_) rfl (by kernel_rfl) (by rfl) (fun _ _ _ h => h) hHeld (fun w1 hw1 => ?_) ?_
              rotate_left 1
              · skip
                go_simp
                (try (first | with_reducible rfl | (apply And.intro <;> rfl)))
              simp only [Act.put, List.setIfInBounds_toArray, List.set_cons_zero, List.set_cons_succ]
              refine run_at (i := 31) (v := ?_) rfl (by kernel_rfl) (by rfl) (fun _ _ _ h => h) hHeld (fun w1 hw1 => ?_) ?_
              rotate_left 1
              · skip
                go_simp
                (try (first | with_reducible rfl | (apply And.intro <;> rfl)))
              simp only [Act.put, List.setIfInBounds_toArray, List.set_cons_zero, List.set_cons_succ]
              refine run_at (i := 32) (v := ?_) rfl (by kernel_rfl) (by rfl) (fun _ _ _ h => h) hHeld (fun w1 hw1 => ?_) ?_
              rotate_left 1
              · skip
                go_simp
                (try (first | with_reducible rfl | (apply And.intro <;> rfl)))
              simp only [Act.put, List.setIfInBounds_toArray, List.set_cons_zero, List.set_cons_succ]
              refine wpAnyH_done (by kernel_rfl) ?_ _
              have HFN := Lib.hid hHeld
              clear hHeld
              go_wp2
              go_roundw
              case rel => exact ⟨h + 1, HH1.out, by go_num, HFN⟩
              case measure => have hh1 := HH1.out; simp [intOf]; omega
            · have hbb2 : (b1 == b2) = false := by simpa using hbb
              have hbb3 : decide (b1 = b2) = false := by simpa using hbb
              refine wp_region_held_drew (S := Fr [] wc) (by kernel_rfl) (HFI.out.drew) (fun hHeld => ?_)
              generalize wr.drew = x0 at *
              refine run_at (i := 0) (v := ?_) rfl (by kernel_rfl) (by rfl) (fun _ _ _ h => h) hHeld (fun w1 hw1 => ?_) ?_
              rotate_left 1
              · skip
                go_simp
                (try (first | with_reducible rfl | (apply And.intro <;> rfl)))
              simp only [Act.put, List.setIfInBounds_toArray, List.set_cons_zero, List.set_cons_succ]
              refine run_at (i := 1) (v := ?_) rfl (by kernel_rfl) (by rfl) (fun _ _ _ h => h) hHeld (fun w1 hw1 => ?_) ?_
              rotate_left 1
              · skip
                go_simp
                (try (first | with_reducible rfl | (apply And.intro <;> rfl)))
              simp only [Act.put, List.setIfInBounds_toArray, List.set_cons_zero, List.set_cons_succ]
              refine run_at (i := 2) (v := ?_) rfl (by kernel_rfl) (by rfl) (fun _ _ _ h => h) hHeld (fun w1 hw1 => ?_) ?_
              rotate_left 1
              · skip
                go_simp
                (try (first | with_reducible rfl | (apply And.intro <;> rfl)))
              simp only [Act.put, List.setIfInBounds_toArray, List.set_cons_zero, List.set_cons_succ]
              refine run_at (i := 3) (v := ?_) rfl (by kernel_rfl) (by rfl) (fun _ _ _ h => h) hHeld (fun w1 hw1 => ?_) ?_
              rotate_left 1
              · skip
                go_simp
                (try (first | with_reducible rfl | (apply And.intro <;> rfl)))
              simp only [Act.put, List.setIfInBounds_toArray, List.set_cons_zero, List.set_cons_succ]
              refine run_at (i := 4) (v := ?_) rfl (by kernel_rfl) (by rfl) (fun _ _ _ h => h) hHeld (fun w1 hw1 => ?_) ?_
              rotate_left 1
              · skip
                have hcw0 := hw1.cell (HC1.out) (by first | (simp; done) | exact HNS.out | exact HNW.out | (intro hm; have hlt := HSB.out _ hm; (try dsimp only at hlt); omega))
                go_simp
                (try (first | with_reducible rfl | (apply And.intro <;> rfl)))
              simp only [Act.put, List.setIfInBounds_toArray, List.set_cons_zero, List.set_cons_succ]
              refine run_at (i := 5) (v := ?_) rfl (by kernel_rfl) (by rfl) (fun _ _ _ h => h) hHeld (fun w1 hw1 => ?_) ?_
              rotate_left 1
              · skip
                go_simp
                (try (first | with_reducible rfl | (apply And.intro <;> rfl)))
              simp only [Act.put, List.setIfInBounds_toArray, List.set_cons_zero, List.set_cons_succ]
              refine run_at (i := 6) (v := ?_) rfl (by kernel_rfl) (by rfl) (fun _ _ _ h => h) hHeld (fun w1 hw1 => ?_) ?_
              rotate_left 1
              · skip
                go_simp
                (try (first | with_reducible rfl | (apply And.intro <;> rfl)))
              simp only [Act.put, List.setIfInBounds_toArray, List.set_cons_zero, List.set_cons_succ]
              refine run_at (i := 7) (v := ?_) rfl (by kernel_rfl) (by rfl) (fun _ _ _ h => h) hHeld (fun w1 hw1 => ?_) ?_
              rotate_left 1
              · skip
                go_simp
                (try (first | with_reducible rfl | (apply And.intro <;> rfl)))
              simp only [Act.put, List.setIfInBounds_toArray, List.set_cons_zero, List.set_cons_succ]
              refine run_at (i := 8) (v := ?_) rfl (by kernel_rfl) (by rfl) (fun _ _ _ h => h) hHeld (fun w1 hw1 => ?_) ?_
              rotate_left 1
              · skip
                go_simp
                (try (first | with_reducible rfl | (apply And.intro <;> rfl)))
              simp only [Act.put, List.setIfInBounds_toArray, List.set_cons_zero, List.set_cons_succ]
              refine run_at (i := 9) (v := ?_) rfl (by kernel_rfl) (by rfl) (fun _ _ _ h => h) hHeld (fun w1 hw1 => ?_) ?_
              rotate_left 1
              · skip
                have hcw0 := hw1.cell (HC2.out) (by first | (simp; done) | exact HNS.out | exact HNW.out | (intro hm; have hlt := HSB.out _ hm; (try dsimp only at hlt); omega))
                go_simp
                (try (first | with_reducible rfl | (apply And.intro <;> rfl)))
              simp only [Act.put, List.setIfInBounds_toArray, List.set_cons_zero, List.set_cons_succ]
              refine run_at (i := 10) (v := ?_) rfl (by kernel_rfl) (by rfl) (fun _ _ _ h => h) hHeld (fun w1 hw1 => ?_) ?_
              rotate_left 1
              · skip
                go_simp
                (try (first | with_reducible rfl | (apply And.intro <;> rfl)))
              simp only [Act.put, List.setIfInBounds_toArray, List.set_cons_zero, List.set_cons_succ]
              refine run_at (i := 11) (v := ?_) rfl (by kernel_rfl) (by rfl) (fun _ _ _ h => h) hHeld (fun w1 hw1 => ?_) ?_
              rotate_left 1
              · skip
                go_simp
                (try (first | with_reducible rfl | (apply And.intro <;> rfl)))
              simp only [Act.put, List.setIfInBounds_toArray, List.set_cons_zero, List.set_cons_succ]
              refine skip_at (i := 12) rfl (by kernel_rfl) (fun _ _ _ h => h) (by rfl) hHeld ?_
              simp only [Act.put, List.setIfInBounds_toArray, List.set_cons_zero, List.set_cons_succ]
              refine skip_at (i := 13) rfl (by kernel_rfl) (fun _ _ _ h => h) (by rfl) hHeld ?_
              simp only [Act.put, List.setIfInBounds_toArray, List.set_cons_zero, List.set_cons_succ]
              refine skip_at (i := 14) rfl (by kernel_rfl) (fun _ _ _ h => h) (by rfl) hHeld ?_
              simp only [Act.put, List.setIfInBounds_toArray, List.set_cons_zero, List.set_cons_succ]
              refine skip_at (i := 15) rfl (by kernel_rfl) (fun _ _ _ h => h) (by rfl) hHeld ?_
              simp only [Act.put, List.setIfInBounds_toArray, List.set_cons_zero, List.set_cons_succ]
              refine skip_at (i := 16) rfl (by kernel_rfl) (fun _ _ _ h => h) (by rfl) hHeld ?_
              simp only [Act.put, List.setIfInBounds_toArray, List.set_cons_zero, List.set_cons_succ]
              refine skip_at (i := 17) rfl (by kernel_rfl) (fun _ _ _ h => h) (by rfl) hHeld ?_
              simp only [Act.put, List.setIfInBounds_toArray, List.set_cons_zero, List.set_cons_succ]
              refine skip_at (i := 18) rfl (by kernel_rfl) (fun _ _ _ h => h) (by rfl) hHeld ?_
              simp only [Act.put, List.setIfInBounds_toArray, List.set_cons_zero, List.set_cons_succ]
              refine skip_at (i := 19) rfl (by kernel_rfl) (fun _ _ _ h => h) (by rfl) hHeld ?_
              simp only [Act.put, List.setIfInBounds_toArray, List.set_cons_zero, List.set_cons_succ]
              refine skip_at (i := 20) rfl (by kernel_rfl) (fun _ _ _ h => h) (by rfl) hHeld ?_
              simp only [Act.put, List.setIfInBounds_toArray, List.set_cons_zero, List.set_cons_succ]
              refine run_at (i := 21) (v := ?_) rfl (by kernel_rfl) (by rfl) (fun _ _ _ h => h) hHeld (fun w1 hw1 => ?_) ?_
              rotate_left 1
              · skip
                go_simp
                (try (first | with_reducible rfl | (apply And.intro <;> rfl)))
              simp only [Act.put, List.setIfInBounds_toArray, List.set_cons_zero, List.set_cons_succ]
              refine run_at (i := 22) (v := ?_) rfl (by kernel_rfl) (by rfl) (fun _ _ _ h => h) hHeld (fun w1 hw1 => ?_) ?_
              rotate_left 1
              · skip
                go_simp
                (try (first | with_reducible rfl | (apply And.intro <;> rfl)))
              simp only [Act.put, List.setIfInBounds_toArray, List.set_cons_zero, List.set_cons_succ]
              have hx1 : ∃ x1, x1 = x0 := ⟨_, rfl⟩
              obtain ⟨x1, hx1⟩ := hx1
              rw [← hx1] at hHeld ⊢
              clear hx1
              refine wpAnyH_done (by kernel_rfl) ?_ _
              go_wp2_with fail
              have hEQ : ∀ W : World, (Op.equalIn 10000 30 (.agg #[.int .i64 b1, .int .i64 (mrk L (b1, t1))]) (.agg #[.int .i64 b2, .int .i64 (mrk L (b2, t2))])).run Try.prog W = .ok (false) W := fun W => by
                have e := eql_sg b1 (mrk L (b1, t1)) b2 (mrk L (b2, t2)) W
                rw [e]
                simp [hbb]
              have HEQ := Lib.hid hEQ
              have hrg := right_any
              clear hEQ hrg
              have HRG := Lib.hid (right_own (u := t2) HM1.out)
              have HSM := Lib.hid (fun (X : World) (h1 : Fr [] wc X) => same_any r1.A r2.A r1.n r2.n r1.c r2.c t1 t2 X (HY1.out.keep h1 (by simp)) (HY2.out.keep h1 (by simp)) (by have := HN1.out; omega))
              generalize mrk L (b1, t1) = m1 at *
              generalize mrk L (b2, t2) = m2 at *
              have HBX := HB.out.keep hHeld (by simp)
              refine wp_region_held_drew (S := Fr [] wc) (by kernel_rfl) (hHeld.drew) (fun hHeld => ?_)
              have HBX := Lib.hid (HB.out.keep hHeld (by simp))
              generalize x1.drew = x2 at *
              refine run_at (i := 0) (v := ?_) rfl (by kernel_rfl) (by rfl) (fun _ _ _ h => h) hHeld (fun w1 hw1 => ?_) ?_
              rotate_left 1
              · skip
                go_simp
                (try (first | with_reducible rfl | (apply And.intro <;> rfl)))
              simp only [Act.put, List.setIfInBounds_toArray, List.set_cons_zero, List.set_cons_succ]
              refine run_at (i := 1) (v := ?_) rfl (by kernel_rfl) (by rfl) (fun _ _ _ h => h) hHeld (fun w1 hw1 => ?_) ?_
              rotate_left 1
              · skip
                go_simp
                (try (first | with_reducible rfl | (apply And.intro <;> rfl)))
              simp only [Act.put, List.setIfInBounds_toArray, List.set_cons_zero, List.set_cons_succ]
              refine run_at (i := 2) (v := ?_) rfl (by kernel_rfl) (by rfl) (fun _ _ _ h => h) hHeld (fun w1 hw1 => ?_) ?_
              rotate_left 1
              · skip
                go_simp
                (try (first | with_reducible rfl | (apply And.intro <;> rfl)))
              simp only [Act.put, List.setIfInBounds_toArray, List.set_cons_zero, List.set_cons_succ]
              refine run_at (i := 3) (v := ?_) rfl (by kernel_rfl) (by rfl) (fun _ _ _ h => h) hHeld (fun w1 hw1 => ?_) ?_
              rotate_left 1
              · skip
                go_simp
                (try (first | with_reducible rfl | (apply And.intro <;> rfl)))
              simp only [Act.put, List.setIfInBounds_toArray, List.set_cons_zero, List.set_cons_succ]
              refine crow_at (i := 4) rfl (by kernel_rfl) (by rfl) _ _ rfl _ rfl _ (fun w1 hw1 j v hv => hw1.cell ((HX1.out) j v hv) (by simp)) (row_sg1) (fun _ _ _ h => h) hHeld ?_
              simp only [Act.put, List.setIfInBounds_toArray, List.set_cons_zero, List.set_cons_succ]
              refine run_at (i := 5) (v := ?_) rfl (by kernel_rfl) (by rfl) (fun _ _ _ h => h) hHeld (fun w1 hw1 => ?_) ?_
              rotate_left 1
              · skip
                go_simp
                (try (first | with_reducible rfl | (apply And.intro <;> rfl)))
              simp only [Act.put, List.setIfInBounds_toArray, List.set_cons_zero, List.set_cons_succ]
              refine run_at (i := 6) (v := ?_) rfl (by kernel_rfl) (by rfl) (fun _ _ _ h => h) hHeld (fun w1 hw1 => ?_) ?_
              rotate_left 1
              · skip
                go_simp
                (try (first | with_reducible rfl | (apply And.intro <;> rfl)))
              simp only [Act.put, List.setIfInBounds_toArray, List.set_cons_zero, List.set_cons_succ]
              refine run_at (i := 7) (v := ?_) rfl (by kernel_rfl) (by rfl) (fun _ _ _ h => h) hHeld (fun w1 hw1 => ?_) ?_
              rotate_left 1
              · skip
                go_simp
                (try (first | with_reducible rfl | (apply And.intro <;> rfl)))
              simp only [Act.put, List.setIfInBounds_toArray, List.set_cons_zero, List.set_cons_succ]
              refine run_at (i := 8) (v := ?_) rfl (by kernel_rfl) (by rfl) (fun _ _ _ h => h) hHeld (fun w1 hw1 => ?_) ?_
              rotate_left 1
              · skip
                have hcw0 := hw1.cell (HR2.out) (by first | (simp; done) | exact HNS.out | exact HNW.out | (intro hm; have hlt := HSB.out _ hm; (try dsimp only at hlt); omega))
                go_simp
                (try (first | with_reducible rfl | (apply And.intro <;> rfl)))
              simp only [Act.put, List.setIfInBounds_toArray, List.set_cons_zero, List.set_cons_succ]
              refine run_at (i := 10) (v := ?_) rfl (by kernel_rfl) (by rfl) (fun _ _ _ h => h) hHeld (fun w1 hw1 => ?_) ?_
              rotate_left 1
              · skip
                go_simp
                (try (first | with_reducible rfl | (apply And.intro <;> rfl)))
              simp only [Act.put, List.setIfInBounds_toArray, List.set_cons_zero, List.set_cons_succ]
              refine run_at (i := 11) (v := ?_) rfl (by kernel_rfl) (by rfl) (fun _ _ _ h => h) hHeld (fun w1 hw1 => ?_) ?_
              rotate_left 1
              · skip
                go_simp
                (try (first | with_reducible rfl | (apply And.intro <;> rfl)))
              simp only [Act.put, List.setIfInBounds_toArray, List.set_cons_zero, List.set_cons_succ]
              refine run_at (i := 12) (v := ?_) rfl (by kernel_rfl) (by rfl) (fun _ _ _ h => h) hHeld (fun w1 hw1 => ?_) ?_
              rotate_left 1
              · skip
                go_simp
                (try (first | with_reducible rfl | (apply And.intro <;> rfl)))
              simp only [Act.put, List.setIfInBounds_toArray, List.set_cons_zero, List.set_cons_succ]
              refine run_at (i := 13) (v := ?_) rfl (by kernel_rfl) (by rfl) (fun _ _ _ h => h) hHeld (fun w1 hw1 => ?_) ?_
              rotate_left 1
              · skip
                have hcw0 := hw1.cell (HR1.out) (by first | (simp; done) | exact HNS.out | exact HNW.out | (intro hm; have hlt := HSB.out _ hm; (try dsimp only at hlt); omega))
                go_simp
                (try (first | with_reducible rfl | (apply And.intro <;> rfl)))
              simp only [Act.put, List.setIfInBounds_toArray, List.set_cons_zero, List.set_cons_succ]
              refine run_at (i := 14) (v := ?_) rfl (by kernel_rfl) (by rfl) (fun _ _ _ h => h) hHeld (fun w1 hw1 => ?_) ?_
              rotate_left 1
              · skip
                go_simp
                (try (first | with_reducible rfl | (apply And.intro <;> rfl)))
              simp only [Act.put, List.setIfInBounds_toArray, List.set_cons_zero, List.set_cons_succ]
              refine run_at (i := 15) (v := ?_) rfl (by kernel_rfl) (by rfl) (fun _ _ _ h => h) hHeld (fun w1 hw1 => ?_) ?_
              rotate_left 1
              · skip
                go_simp
                (try (first | with_reducible rfl | (apply And.intro <;> rfl)))
              simp only [Act.put, List.setIfInBounds_toArray, List.set_cons_zero, List.set_cons_succ]
              refine run_at (i := 16) (v := ?_) rfl (by kernel_rfl) (by rfl) (fun _ _ _ h => h) hHeld (fun w1 hw1 => ?_) ?_
              rotate_left 1
              · skip
                go_simp
                (try (first | with_reducible rfl | (apply And.intro <;> rfl)))
              simp only [Act.put, List.setIfInBounds_toArray, List.set_cons_zero, List.set_cons_succ]
              refine run_at (i := 17) (v := ?_) rfl (by kernel_rfl) (by rfl) (fun _ _ _ h => h) hHeld (fun w1 hw1 => ?_) ?_
              rotate_left 1
              · skip
                have hcw0 := hw1.cell (HR2.out) (by first | (simp; done) | exact HNS.out | exact HNW.out | (intro hm; have hlt := HSB.out _ hm; (try dsimp only at hlt); omega))
                go_simp
                (try (first | with_reducible rfl | (apply And.intro <;> rfl)))
              simp only [Act.put, List.setIfInBounds_toArray, List.set_cons_zero, List.set_cons_succ]
              refine call_at (i := 9) (f := ?_) (args := ?_) rfl (by kernel_rfl) (by rfl) ?_ ?_
              rotate_left 2
              · go_simp
                (try (first | with_reducible rfl | (apply And.intro <;> rfl)))
              refine (right_any x2 S g L HBX.out b1 m1 HW1.out r2.A r2.n r2.c t2 (HY2.out.keep hHeld (by simp)) (by have := HN2.out; unfold maxLen; omega)).mono ?_
              rw [HRG.out]
              rintro e_ x3 ⟨rfl, hf⟩
              refine ⟨_, rfl, hHeld.and hf (by simp), fun hHeld => ?_⟩
              clear hf
              simp only [Act.put, List.setIfInBounds_toArray, List.set_cons_zero, List.set_cons_succ]
              have hsm := HSM.out x3 hHeld
              generalize hq : decide (t1 = t2) = q at *
              have hqq : (q != q) = false := by simp
              refine call_at (i := 18) (f := ?_) (args := ?_) rfl (by kernel_rfl) (by rfl) ?_ ?_
              rotate_left 2
              · go_simp
                (try (first | with_reducible rfl | (apply And.intro <;> rfl)))
              refine hsm.mono ?_
              rintro e_ x4 ⟨rfl, kk, rfl⟩
              clear hsm
              refine ⟨_, rfl, hHeld.drewN kk, fun hHeld => ?_⟩
              generalize x3.drewN kk = x4 at *
              simp only [Act.put, List.setIfInBounds_toArray, List.set_cons_zero, List.set_cons_succ]
              refine run_at (i := 19) (v := ?_) rfl (by kernel_rfl) (by rfl) (fun _ _ _ h => h) hHeld (fun w1 hw1 => ?_) ?_
              rotate_left 1
              · skip
                go_simp
                (try (first | with_reducible rfl | (apply And.intro <;> rfl)))
              simp only [Act.put, List.setIfInBounds_toArray, List.set_cons_zero, List.set_cons_succ]
              refine run_at (i := 20) (v := ?_) rfl (by kernel_rfl) (by rfl) (fun _ _ _ h => h) hHeld (fun w1 hw1 => ?_) ?_
              rotate_left 1
              · skip
                go_simp
                (try (first | with_reducible rfl | (apply And.intro <;> rfl)))
              simp only [Act.put, List.setIfInBounds_toArray, List.set_cons_zero, List.set_cons_succ]
              refine run_at (i := 21) (v := ?_) rfl (by kernel_rfl) (by rfl) (fun _ _ _ h => h) hHeld (fun w1 hw1 => ?_) ?_
              rotate_left 1
              · skip
                go_simp
                (try (first | with_reducible rfl | (apply And.intro <;> rfl)))
              simp only [Act.put, List.setIfInBounds_toArray, List.set_cons_zero, List.set_cons_succ]
              refine run_at (i := 22) (v := ?_) rfl (by kernel_rfl) (by rfl) (fun _ _ _ h => h) hHeld (fun w1 hw1 => ?_) ?_
              rotate_left 1
              · skip
                go_simp
                (try (first | with_reducible rfl | (apply And.intro <;> rfl)))
              simp only [Act.put, List.setIfInBounds_toArray, List.set_cons_zero, List.set_cons_succ]
              refine run_at (i := 23) (v := ?_) rfl (by kernel_rfl) (by rfl) (fun _ _ _ h => h) hHeld (fun w1 hw1 => ?_) ?_
              rotate_left 1
              · skip
                go_simp
                (try (first | with_reducible rfl | (apply And.intro <;> rfl)))
              simp only [Act.put, List.setIfInBounds_toArray, List.set_cons_zero, List.set_cons_succ]
              refine crow_at (i := 24) rfl (by kernel_rfl) (by rfl) _ _ rfl _ rfl _ (fun w1 hw1 j v hv => hw1.cell ((HX1.out) j v hv) (by simp)) (row_sg1) (fun _ _ _ h => h) hHeld ?_
              simp only [Act.put, List.setIfInBounds_toArray, List.set_cons_zero, List.set_cons_succ]
              refine run_at (i := 25) (v := ?_) rfl (by kernel_rfl) (by rfl) (fun _ _ _ h => h) hHeld (fun w1 hw1 => ?_) ?_
              rotate_left 1
              · skip
                go_simp
                (try (first | with_reducible rfl | (apply And.intro <;> rfl)))
              simp only [Act.put, List.setIfInBounds_toArray, List.set_cons_zero, List.set_cons_succ]
              refine run_at (i := 26) (v := ?_) rfl (by kernel_rfl) (by rfl) (fun _ _ _ h => h) hHeld (fun w1 hw1 => ?_) ?_
              rotate_left 1
              · skip
                go_simp
                (try (first | with_reducible rfl | (apply And.intro <;> rfl)))
              simp only [Act.put, List.setIfInBounds_toArray, List.set_cons_zero, List.set_cons_succ]
              refine run_at (i := 27) (v := ?_) rfl (by kernel_rfl) (by rfl) (fun _ _ _ h => h) hHeld (fun w1 hw1 => ?_) ?_
              rotate_left 1
              · skip
                go_simp
                (try (first | with_reducible rfl | (apply And.intro <;> rfl)))
              simp only [Act.put, List.setIfInBounds_toArray, List.set_cons_zero, List.set_cons_succ]
              refine crow_at (i := 28) rfl (by kernel_rfl) (by rfl) _ _ rfl _ rfl _ (fun w1 hw1 j v hv => hw1.cell ((HX2.out) j v hv) (by simp)) (row_sg1) (fun _ _ _ h => h) hHeld ?_
              simp only [Act.put, List.setIfInBounds_toArray, List.set_cons_zero, List.set_cons_succ]
              refine eql_at (i := 29) rfl (by kernel_rfl) (by rfl) _ _ _ _ rfl _ _ rfl rfl _ (by kernel_rfl) (HEQ.out) (fun _ _ _ h => h) hHeld ?_
              simp only [Act.put, List.setIfInBounds_toArray, List.set_cons_zero, List.set_cons_succ]
              refine run_at (i := 30) (v := ?_) rfl (by kernel_rfl) (by rfl) (fun _ _ _ h => h) hHeld (fun w1 hw1 => ?_) ?_
              rotate_left 1
              · skip
                go_simp
                (try (first | with_reducible rfl | (apply And.intro <;> rfl)))
              simp only [Act.put, List.setIfInBounds_toArray, List.set_cons_zero, List.set_cons_succ]
              refine run_at (i := 31) (v := ?_) rfl (by kernel_rfl) (by rfl) (fun _ _ _ h => h) hHeld (fun w1 hw1 => ?_) ?_
              rotate_left 1
              · skip
                go_simp
                (try (first | with_reducible rfl | (apply And.intro <;> rfl)))
              simp only [Act.put, List.setIfInBounds_toArray, List.set_cons_zero, List.set_cons_succ]
              refine run_at (i := 32) (v := ?_) rfl (by kernel_rfl) (by rfl) (fun _ _ _ h => h) hHeld (fun w1 hw1 => ?_) ?_
              rotate_left 1
              · skip
                go_simp
                (try (first | with_reducible rfl | (apply And.intro <;> rfl)))
              simp only [Act.put, List.setIfInBounds_toArray, List.set_cons_zero, List.set_cons_succ]
              refine wpAnyH_done (by kernel_rfl) ?_ _
              have HFN := Lib.hid hHeld
              clear hHeld
              go_wp2
              go_roundw
              case rel => exact ⟨h + 1, HH1.out, by go_num, HFN⟩
              case measure => have hh1 := HH1.out; simp [intOf]; omega
          · go_wp2
            go_roundw
            case rel => exact ⟨j + 1, by omega, by go_num, HFI⟩
            case measure => simp [intOf]; omega
      · have hjn : j = N := by omega
        have hd : decide (j < N) = false := by simp; omega
        clear hjn hlt hj
        go_upto_if 153 with (fail)
        by_cases hN0 : N = 0
        · have hL0 := HL0.out hN0
          subst hN0
          go_wp2_with fail
          refine (len_any wr S g L (HB.out.keep HFR.out (by simp))).mono ?_
          rw [hL0]
          rintro e x1 ⟨rfl, rfl⟩
          have hrg := right_any wr S g [] (by have h := HB.out.keep HFR.out (by simp); rw [hL0] at h; exact h) by_ mk HBY.out none 0 0 [] (By.nil _ _) (by decide)
          rw [show rightB [] by_ mk [] = false by simp [rightB]] at hrg
          have HRG := Lib.hid hrg
          clear hrg hL0
          go_wp2_with (refine wpList_builtg rfl 30 _ rfl _ _ (built_sg2 _ _) rfl ?_)
          refine HRG.out.mono ?_
          rintro e x2 ⟨rfl, hf⟩
          have HF2 := Lib.hid (HFR.out.and hf (by simp))
          clear hf HRG
          go_wp2_with fail
          refine (bwakes_any x2).mono ?_
          rintro e x3 ⟨rfl, hf⟩
          have HF3 := Lib.hid (HF2.out.and hf (by simp))
          clear hf HF2
          go_wp2
          go_ret
          exact ⟨rfl, HF.out.and HF3.out (by simp)⟩
        · have hNp : (0 : Int) < (N : Int) := by omega
          have hz0 : ((N : Int) == 0) = false := by simp; omega
          have hz1 : decide ((N : Int) = 0) = false := by simp; omega
          go_wp2_with fail
          refine (within_pos wh (N : Int) HWH.out.1 HWH.out.2 hNp (by omega) wr).mono ?_
          rintro e x1 ⟨rfl, rfl⟩
          obtain ⟨q, hq⟩ : ∃ q : Nat, wh % (N : Int) = q := ⟨(wh % (N : Int)).toNat, by have := Int.emod_nonneg wh (b := (N : Int)) (by omega); omega⟩
          have hqN : q < N := by have := Int.emod_lt_of_pos wh hNp; omega
          rw [hq]
          clear hq
          obtain ⟨b1, t1, r1, ad, ar, hA1, hA2, hm1, hw1, hn1, hy1, hrc1, hc1, hd1, hs1⟩ := HPK.out q hqN
          have HM1 := Lib.hid hm1
          have HW1 := Lib.hid hw1
          have HN1 := Lib.hid hn1
          have HY1 := Lib.hid hy1
          have HR1 := Lib.hid hrc1
          have HC1 := Lib.hid hc1
          have HD1 := Lib.hid hd1
          have hj0 : (0 : Int) ≤ q := by omega
          clear hn1 hy1 hrc1 hc1 hd1 hs1 hm1 hw1
          subst hA1
          subst hA2
          obtain ⟨m1, hm1⟩ : ∃ m1, m1 = mrk L (b1, t1) := ⟨_, rfl⟩
          rw [← hm1] at HD1
          have HMM := Lib.hid hm1
          clear hm1
          obtain ⟨xb, hxb⟩ : ∃ xb, xb = IntKind.i64.wrap (IntKind.i64.wrap (b1 + 1) + by_ % 9) := ⟨_, rfl⟩
          have hxn : xb ≠ b1 := by rw [hxb]; exact wrap_far b1 _ (i64_of HW1.out) ⟨Int.emod_nonneg _ (by omega), Int.emod_lt_of_pos _ (by omega)⟩
          have hxw : (Lit.int .i64 xb).wf = true := by rw [hxb]; exact wf_wrap64 _
          have HXN := Lib.hid hxn
          have HXW := Lib.hid hxw
          have hby2 := i64_of HBY.out
          go_upto_region 28 with (fail)
          go_cut [21] (fun s21 wx => ∃ g21, s21 = .pointer (some ⟨g21, 0, none⟩) ∧ Blk wx g21 30 #[.int .i64 xb, .int .i64 m1] ∧ Fr [] wc wx)
          case first =>
            refine wp_region_held_drew (S := Fr [] wc) (by kernel_rfl) (HFR.out.drew) (fun hHeld => ?_)
            generalize wr.drew = x0 at *
            refine run_at (i := 0) (v := ?_) rfl (by kernel_rfl) (by rfl) (fun _ _ _ h => h) hHeld (fun w1 hw1 => ?_) ?_
            rotate_left 1
            · skip
              go_simp
              (try (first | with_reducible rfl | (apply And.intro <;> rfl)))
            simp only [Act.put, List.setIfInBounds_toArray, List.set_cons_zero, List.set_cons_succ]
            refine run_at (i := 1) (v := ?_) rfl (by kernel_rfl) (by rfl) (fun _ _ _ h => h) hHeld (fun w1 hw1 => ?_) ?_
            rotate_left 1
            · skip
              go_simp
              (try (first | with_reducible rfl | (apply And.intro <;> rfl)))
            simp only [Act.put, List.setIfInBounds_toArray, List.set_cons_zero, List.set_cons_succ]
            refine run_at (i := 2) (v := ?_) rfl (by kernel_rfl) (by rfl) (fun _ _ _ h => h) hHeld (fun w1 hw1 => ?_) ?_
            rotate_left 1
            · skip
              go_simp
              (try (first | with_reducible rfl | (apply And.intro <;> rfl)))
            simp only [Act.put, List.setIfInBounds_toArray, List.set_cons_zero, List.set_cons_succ]
            refine run_at (i := 3) (v := ?_) rfl (by kernel_rfl) (by rfl) (fun _ _ _ h => h) hHeld (fun w1 hw1 => ?_) ?_
            rotate_left 1
            · skip
              go_simp
              (try (first | with_reducible rfl | (apply And.intro <;> rfl)))
            simp only [Act.put, List.setIfInBounds_toArray, List.set_cons_zero, List.set_cons_succ]
            refine run_at (i := 4) (v := ?_) rfl (by kernel_rfl) (by rfl) (fun _ _ _ h => h) hHeld (fun w1 hw1 => ?_) ?_
            rotate_left 1
            · skip
              have hcw0 := hw1.cell (HC1.out) (by first | (simp; done) | exact HNS.out | exact HNW.out | (intro hm; have hlt := HSB.out _ hm; (try dsimp only at hlt); omega))
              go_simp
              (try (first | with_reducible rfl | (apply And.intro <;> rfl)))
            simp only [Act.put, List.setIfInBounds_toArray, List.set_cons_zero, List.set_cons_succ]
            refine run_at (i := 5) (v := ?_) rfl (by kernel_rfl) (by rfl) (fun _ _ _ h => h) hHeld (fun w1 hw1 => ?_) ?_
            rotate_left 1
            · skip
              go_simp
              (try (first | with_reducible rfl | (apply And.intro <;> rfl)))
            simp only [Act.put, List.setIfInBounds_toArray, List.set_cons_zero, List.set_cons_succ]
            refine run_at (i := 6) (v := ?_) rfl (by kernel_rfl) (by rfl) (fun _ _ _ h => h) hHeld (fun w1 hw1 => ?_) ?_
            rotate_left 1
            · skip
              go_simp
              (try (first | with_reducible rfl | (apply And.intro <;> rfl)))
            simp only [Act.put, List.setIfInBounds_toArray, List.set_cons_zero, List.set_cons_succ]
            refine run_at (i := 9) (v := ?_) rfl (by kernel_rfl) (by rfl) (fun _ _ _ h => h) hHeld (fun w1 hw1 => ?_) ?_
            rotate_left 1
            · skip
              go_simp
              (try (first | with_reducible rfl | (apply And.intro <;> rfl)))
            simp only [Act.put, List.setIfInBounds_toArray, List.set_cons_zero, List.set_cons_succ]
            refine run_at (i := 10) (v := ?_) rfl (by kernel_rfl) (by rfl) (fun _ _ _ h => h) hHeld (fun w1 hw1 => ?_) ?_
            rotate_left 1
            · skip
              go_simp
              (try (first | with_reducible rfl | (apply And.intro <;> rfl)))
            simp only [Act.put, List.setIfInBounds_toArray, List.set_cons_zero, List.set_cons_succ]
            refine run_at (i := 11) (v := ?_) rfl (by kernel_rfl) (by rfl) (fun _ _ _ h => h) hHeld (fun w1 hw1 => ?_) ?_
            rotate_left 1
            · skip
              go_simp
              (try (first | with_reducible rfl | (apply And.intro <;> rfl)))
            simp only [Act.put, List.setIfInBounds_toArray, List.set_cons_zero, List.set_cons_succ]
            refine run_at (i := 12) (v := ?_) rfl (by kernel_rfl) (by rfl) (fun _ _ _ h => h) hHeld (fun w1 hw1 => ?_) ?_
            rotate_left 1
            · skip
              go_simp
              (try (first | with_reducible rfl | (apply And.intro <;> rfl)))
            simp only [Act.put, List.setIfInBounds_toArray, List.set_cons_zero, List.set_cons_succ]
            refine run_at (i := 13) (v := ?_) rfl (by kernel_rfl) (by rfl) (fun _ _ _ h => h) hHeld (fun w1 hw1 => ?_) ?_
            rotate_left 1
            · skip
              have hcw0 := hw1.cell (HD1.out) (by first | (simp; done) | exact HNS.out | exact HNW.out | (intro hm; have hlt := HSB.out _ hm; (try dsimp only at hlt); omega))
              go_simp
              (try (first | with_reducible rfl | (apply And.intro <;> rfl)))
            simp only [Act.put, List.setIfInBounds_toArray, List.set_cons_zero, List.set_cons_succ]
            have HGE : Hid (wc.heap.size ≤ x0.heap.size) := Lib.hid hHeld.size
            refine two_at (i := 7) (j := 15) rfl rfl (by kernel_rfl) (by rfl) (by rfl) (fun K hK => ?_) (fun K hK => ?_)
            · skip
              refine wp_call (f := ?_) (args := ?_) ?_ ?_
              rotate_left 2
              · go_simp
                (try (first | with_reducible rfl | (apply And.intro <;> rfl)))
              refine (within_pos by_ 9 hby2.1 hby2.2 (by omega) (by omega) _).mono ?_
              rintro e_ x1 ⟨rfl, rfl⟩
              refine ⟨_, rfl, ?_⟩
              refine hK.out _ _ hHeld (fun hHeld => ?_)
              clear hK K
              simp only [Act.put, List.setIfInBounds_toArray, List.set_cons_zero, List.set_cons_succ]
              refine run_at (i := 8) (v := ?_) rfl (by kernel_rfl) (by rfl) (fun _ _ _ h => h) hHeld (fun w1 hw1 => ?_) ?_
              rotate_left 1
              · skip
                go_simp
                (try (first | with_reducible rfl | (apply And.intro <;> rfl)))
              simp only [Act.put, List.setIfInBounds_toArray, List.set_cons_zero, List.set_cons_succ]
              rw [← hxb]
              refine build_at (i := 14) rfl (by kernel_rfl) (by rfl) _ _ rfl _ _ (built_sg2 xb m1) rfl (fun _ _ _ h => h) hHeld ?_
              simp only [Act.put, List.setIfInBounds_toArray, List.set_cons_zero, List.set_cons_succ]
              refine step_at (i := 15) rfl (by kernel_rfl) (by rfl) (fun K hK => ?_)
              refine wp_run (v := ?_) (w' := ?_) ?_ ?_
              rotate_left 2
              · go_simp
                (try (first | with_reducible rfl | (apply And.intro <;> rfl)))
              refine hK.out _ (x0.alloc (Obj.cells #[.int .i64 0, .int .i64 0] 30)) (hHeld.alloc _) (fun hHeld => ?_)
              clear hK K
              simp only [Act.put, List.setIfInBounds_toArray, List.set_cons_zero, List.set_cons_succ]
              have HGB : Hid (Blk (x0.alloc (Obj.cells #[.int .i64 0, .int .i64 0] 30)) x0.heap.size 30 #[.int .i64 0, .int .i64 0]) := Lib.hid (Blk.new _ _ _)
              refine step_at (i := 16) rfl (by kernel_rfl) (by rfl) (fun K hK => ?_)
              refine wp_store_blk _ _ _ rfl x0.heap.size #[.int .i64 xb, .int .i64 m1] rfl rfl 30 _ HGB.out (by kernel_rfl) rfl (by kernel_rfl) (fun x3 hb hf => ?_)
              refine hK.out _ _ (hHeld.go hf (by have := HGE.out; simp; omega)) (fun hHeld => ?_)
              clear hK K
              simp only [Act.put, List.setIfInBounds_toArray, List.set_cons_zero, List.set_cons_succ]
              refine wpAnyH_done (by kernel_rfl) ?_ _
              go_wp2_with fail
              go_meet
              exact ⟨_, rfl, hb, hHeld⟩
            · skip
              refine wp_run (v := ?_) (w' := ?_) ?_ ?_
              rotate_left 2
              · go_simp
                (try (first | with_reducible rfl | (apply And.intro <;> rfl)))
              refine hK.out _ (x0.alloc (Obj.cells #[.int .i64 0, .int .i64 0] 30)) (hHeld.alloc _) (fun hHeld => ?_)
              clear hK K
              simp only [Act.put, List.setIfInBounds_toArray, List.set_cons_zero, List.set_cons_succ]
              have HGB : Hid (Blk (x0.alloc (Obj.cells #[.int .i64 0, .int .i64 0] 30)) x0.heap.size 30 #[.int .i64 0, .int .i64 0]) := Lib.hid (Blk.new _ _ _)
              refine call_at (i := 7) (f := ?_) (args := ?_) rfl (by kernel_rfl) (by rfl) ?_ ?_
              rotate_left 2
              · go_simp
                (try (first | with_reducible rfl | (apply And.intro <;> rfl)))
              refine (within_pos by_ 9 hby2.1 hby2.2 (by omega) (by omega) _).mono ?_
              rintro e_ x1 ⟨rfl, rfl⟩
              refine ⟨_, rfl, hHeld, fun hHeld => ?_⟩
              simp only [Act.put, List.setIfInBounds_toArray, List.set_cons_zero, List.set_cons_succ]
              refine run_at (i := 8) (v := ?_) rfl (by kernel_rfl) (by rfl) (fun _ _ _ h => h) hHeld (fun w1 hw1 => ?_) ?_
              rotate_left 1
              · skip
                go_simp
                (try (first | with_reducible rfl | (apply And.intro <;> rfl)))
              simp only [Act.put, List.setIfInBounds_toArray, List.set_cons_zero, List.set_cons_succ]
              rw [← hxb]
              refine build_at (i := 14) rfl (by kernel_rfl) (by rfl) _ _ rfl _ _ (built_sg2 xb m1) rfl (fun _ _ _ h => h) hHeld ?_
              simp only [Act.put, List.setIfInBounds_toArray, List.set_cons_zero, List.set_cons_succ]
              refine step_at (i := 16) rfl (by kernel_rfl) (by rfl) (fun K hK => ?_)
              refine wp_store_blk _ _ _ rfl x0.heap.size #[.int .i64 xb, .int .i64 m1] rfl rfl 30 _ HGB.out (by kernel_rfl) rfl (by kernel_rfl) (fun x3 hb hf => ?_)
              refine hK.out _ _ (hHeld.go hf (by have := HGE.out; simp; omega)) (fun hHeld => ?_)
              clear hK K
              simp only [Act.put, List.setIfInBounds_toArray, List.set_cons_zero, List.set_cons_succ]
              refine wpAnyH_done (by kernel_rfl) ?_ _
              go_wp2_with fail
              go_meet
              exact ⟨_, rfl, hb, hHeld⟩
          case rest =>
            obtain ⟨g21, rfl, hb21, hf21⟩ := hcut
            clear hxb
            have HB21 := Lib.hid hb21
            have HFZ := Lib.hid hf21
            clear hb21 hf21
            have HRA := Lib.hid (right_by HM1.out HXN.out)
            rw [← HMM.out] at HRA
            obtain ⟨mz, hmz⟩ : ∃ mz, mz = mk % 9 := ⟨_, rfl⟩
            have hmz0 : 0 ≤ mz ∧ mz < 9 := by rw [hmz]; exact ⟨Int.emod_nonneg _ (by omega), Int.emod_lt_of_pos _ (by omega)⟩
            have HMZ := Lib.hid hmz
            clear hmz
            have hl10 := HL10.out
            have e1 : IntKind.i64.wrap ((L.length : Int) + 1) = (L.length : Int) + 1 := IntWalk.i64_in _ (by omega)
            have e2 : IntKind.i64.wrap ((L.length : Int) + 1 + mz) = (L.length : Int) + 1 + mz := IntWalk.i64_in _ (by omega)
            have HR2 := Lib.hid (right_far (l := L) (x := b1) (m := (L.length : Int) + 1 + mz) (t := t1) (.inr (by omega)))
            have HR3 := Lib.hid (right_far (l := L) (x := b1) (m := 0) (t := t1) (.inl (by omega)))
            go_upto_region 29 with (fail)
            refine wp_region_held_drew (S := Fr [] wc) (by kernel_rfl) (Fr.drew (Fr.refl _ wc)) (fun hHeld => ?_)
            have HR1 := Lib.hid (HFZ.out.cell HR1.out (by simp))
            have HC1 := Lib.hid (HFZ.out.cell HC1.out (by simp))
            have HBZ := Lib.hid (HB.out.keep HFZ.out (by simp))
            have HY1 := Lib.hid (HY1.out.keep HFZ.out (by simp))
            generalize wc.drew = x0 at *
            refine run_at (i := 0) (v := ?_) rfl (by kernel_rfl) (by rfl) (fun _ _ _ h => h) hHeld (fun w1 hw1 => ?_) ?_
            rotate_left 1
            · skip
              go_simp
              (try (first | with_reducible rfl | (apply And.intro <;> rfl)))
            simp only [Act.put, List.setIfInBounds_toArray, List.set_cons_zero, List.set_cons_succ]
            refine row_at (i := 1) rfl (by kernel_rfl) (by rfl) _ _ rfl _ _ rfl _ (fun w1 hw1 => hw1.range (HB21.out.range) (by first | (simp; done) | exact HNS.out | exact HNW.out | (intro hm; have hlt := HSB.out _ hm; (try dsimp only at hlt); omega))) (row_sg1) (fun _ _ _ h => h) hHeld ?_
            simp only [Act.put, List.setIfInBounds_toArray, List.set_cons_zero, List.set_cons_succ]
            refine run_at (i := 2) (v := ?_) rfl (by kernel_rfl) (by rfl) (fun _ _ _ h => h) hHeld (fun w1 hw1 => ?_) ?_
            rotate_left 1
            · skip
              go_simp
              (try (first | with_reducible rfl | (apply And.intro <;> rfl)))
            simp only [Act.put, List.setIfInBounds_toArray, List.set_cons_zero, List.set_cons_succ]
            refine run_at (i := 3) (v := ?_) rfl (by kernel_rfl) (by rfl) (fun _ _ _ h => h) hHeld (fun w1 hw1 => ?_) ?_
            rotate_left 1
            · skip
              go_simp
              (try (first | with_reducible rfl | (apply And.intro <;> rfl)))
            simp only [Act.put, List.setIfInBounds_toArray, List.set_cons_zero, List.set_cons_succ]
            refine run_at (i := 4) (v := ?_) rfl (by kernel_rfl) (by rfl) (fun _ _ _ h => h) hHeld (fun w1 hw1 => ?_) ?_
            rotate_left 1
            · skip
              go_simp
              (try (first | with_reducible rfl | (apply And.intro <;> rfl)))
            simp only [Act.put, List.setIfInBounds_toArray, List.set_cons_zero, List.set_cons_succ]
            refine run_at (i := 5) (v := ?_) rfl (by kernel_rfl) (by rfl) (fun _ _ _ h => h) hHeld (fun w1 hw1 => ?_) ?_
            rotate_left 1
            · skip
              have hcw0 := hw1.cell (HR1.out) (by first | (simp; done) | exact HNS.out | exact HNW.out | (intro hm; have hlt := HSB.out _ hm; (try dsimp only at hlt); omega))
              go_simp
              (try (first | with_reducible rfl | (apply And.intro <;> rfl)))
            simp only [Act.put, List.setIfInBounds_toArray, List.set_cons_zero, List.set_cons_succ]
            refine call_at (i := 6) (f := ?_) (args := ?_) rfl (by kernel_rfl) (by rfl) ?_ ?_
            rotate_left 2
            · go_simp
              (try (first | with_reducible rfl | (apply And.intro <;> rfl)))
            refine (right_any x0 S g L (HBZ.out.keep hHeld (by simp)) xb (m1) HXW.out r1.A r1.n r1.c t1 (HY1.out.keep hHeld (by simp)) (by have := HN1.out; unfold maxLen; omega)).mono ?_
            rw [HRA.out]
            rintro e_ x1 ⟨rfl, hf⟩
            refine ⟨_, rfl, hHeld.and hf (by simp), fun hHeld => ?_⟩
            clear hf
            simp only [Act.put, List.setIfInBounds_toArray, List.set_cons_zero, List.set_cons_succ]
            refine run_at (i := 7) (v := ?_) rfl (by kernel_rfl) (by rfl) (fun _ _ _ h => h) hHeld (fun w1 hw1 => ?_) ?_
            rotate_left 1
            · skip
              go_simp
              (try (first | with_reducible rfl | (apply And.intro <;> rfl)))
            simp only [Act.put, List.setIfInBounds_toArray, List.set_cons_zero, List.set_cons_succ]
            refine run_at (i := 8) (v := ?_) rfl (by kernel_rfl) (by rfl) (fun _ _ _ h => h) hHeld (fun w1 hw1 => ?_) ?_
            rotate_left 1
            · skip
              go_simp
              (try (first | with_reducible rfl | (apply And.intro <;> rfl)))
            simp only [Act.put, List.setIfInBounds_toArray, List.set_cons_zero, List.set_cons_succ]
            refine run_at (i := 9) (v := ?_) rfl (by kernel_rfl) (by rfl) (fun _ _ _ h => h) hHeld (fun w1 hw1 => ?_) ?_
            rotate_left 1
            · skip
              go_simp
              (try (first | with_reducible rfl | (apply And.intro <;> rfl)))
            simp only [Act.put, List.setIfInBounds_toArray, List.set_cons_zero, List.set_cons_succ]
            refine run_at (i := 10) (v := ?_) rfl (by kernel_rfl) (by rfl) (fun _ _ _ h => h) hHeld (fun w1 hw1 => ?_) ?_
            rotate_left 1
            · skip
              go_simp
              (try (first | with_reducible rfl | (apply And.intro <;> rfl)))
            simp only [Act.put, List.setIfInBounds_toArray, List.set_cons_zero, List.set_cons_succ]
            refine run_at (i := 11) (v := ?_) rfl (by kernel_rfl) (by rfl) (fun _ _ _ h => h) hHeld (fun w1 hw1 => ?_) ?_
            rotate_left 1
            · skip
              go_simp
              (try (first | with_reducible rfl | (apply And.intro <;> rfl)))
            simp only [Act.put, List.setIfInBounds_toArray, List.set_cons_zero, List.set_cons_succ]
            refine run_at (i := 12) (v := ?_) rfl (by kernel_rfl) (by rfl) (fun _ _ _ h => h) hHeld (fun w1 hw1 => ?_) ?_
            rotate_left 1
            · skip
              go_simp
              (try (first | with_reducible rfl | (apply And.intro <;> rfl)))
            simp only [Act.put, List.setIfInBounds_toArray, List.set_cons_zero, List.set_cons_succ]
            refine run_at (i := 13) (v := ?_) rfl (by kernel_rfl) (by rfl) (fun _ _ _ h => h) hHeld (fun w1 hw1 => ?_) ?_
            rotate_left 1
            · skip
              go_simp
              (try (first | with_reducible rfl | (apply And.intro <;> rfl)))
            simp only [Act.put, List.setIfInBounds_toArray, List.set_cons_zero, List.set_cons_succ]
            refine run_at (i := 14) (v := ?_) rfl (by kernel_rfl) (by rfl) (fun _ _ _ h => h) hHeld (fun w1 hw1 => ?_) ?_
            rotate_left 1
            · skip
              have hcw0 := hw1.cell (HC1.out) (by first | (simp; done) | exact HNS.out | exact HNW.out | (intro hm; have hlt := HSB.out _ hm; (try dsimp only at hlt); omega))
              go_simp
              (try (first | with_reducible rfl | (apply And.intro <;> rfl)))
            simp only [Act.put, List.setIfInBounds_toArray, List.set_cons_zero, List.set_cons_succ]
            refine run_at (i := 15) (v := ?_) rfl (by kernel_rfl) (by rfl) (fun _ _ _ h => h) hHeld (fun w1 hw1 => ?_) ?_
            rotate_left 1
            · skip
              go_simp
              (try (first | with_reducible rfl | (apply And.intro <;> rfl)))
            simp only [Act.put, List.setIfInBounds_toArray, List.set_cons_zero, List.set_cons_succ]
            refine run_at (i := 18) (v := ?_) rfl (by kernel_rfl) (by rfl) (fun _ _ _ h => h) hHeld (fun w1 hw1 => ?_) ?_
            rotate_left 1
            · skip
              go_simp
              (try (first | with_reducible rfl | (apply And.intro <;> rfl)))
            simp only [Act.put, List.setIfInBounds_toArray, List.set_cons_zero, List.set_cons_succ]
            refine run_at (i := 22) (v := ?_) rfl (by kernel_rfl) (by rfl) (fun _ _ _ h => h) hHeld (fun w1 hw1 => ?_) ?_
            rotate_left 1
            · skip
              go_simp
              (try (first | with_reducible rfl | (apply And.intro <;> rfl)))
            simp only [Act.put, List.setIfInBounds_toArray, List.set_cons_zero, List.set_cons_succ]
            refine run_at (i := 23) (v := ?_) rfl (by kernel_rfl) (by rfl) (fun _ _ _ h => h) hHeld (fun w1 hw1 => ?_) ?_
            rotate_left 1
            · skip
              go_simp
              (try (first | with_reducible rfl | (apply And.intro <;> rfl)))
            simp only [Act.put, List.setIfInBounds_toArray, List.set_cons_zero, List.set_cons_succ]
            refine run_at (i := 24) (v := ?_) rfl (by kernel_rfl) (by rfl) (fun _ _ _ h => h) hHeld (fun w1 hw1 => ?_) ?_
            rotate_left 1
            · skip
              go_simp
              (try (first | with_reducible rfl | (apply And.intro <;> rfl)))
            simp only [Act.put, List.setIfInBounds_toArray, List.set_cons_zero, List.set_cons_succ]
            refine run_at (i := 25) (v := ?_) rfl (by kernel_rfl) (by rfl) (fun _ _ _ h => h) hHeld (fun w1 hw1 => ?_) ?_
            rotate_left 1
            · skip
              have hcw0 := hw1.cell (HR1.out) (by first | (simp; done) | exact HNS.out | exact HNW.out | (intro hm; have hlt := HSB.out _ hm; (try dsimp only at hlt); omega))
              go_simp
              (try (first | with_reducible rfl | (apply And.intro <;> rfl)))
            simp only [Act.put, List.setIfInBounds_toArray, List.set_cons_zero, List.set_cons_succ]
            refine call_at (i := 16) (f := ?_) (args := ?_) rfl (by kernel_rfl) (by rfl) ?_ ?_
            rotate_left 2
            · go_simp
              (try (first | with_reducible rfl | (apply And.intro <;> rfl)))
            refine (len_any x1 S g L (HBZ.out.keep hHeld (by simp))).mono ?_
            rintro e_ x2 ⟨rfl, rfl⟩
            refine ⟨_, rfl, hHeld, fun hHeld => ?_⟩
            simp only [Act.put, List.setIfInBounds_toArray, List.set_cons_zero, List.set_cons_succ]
            refine run_at (i := 17) (v := ?_) rfl (by kernel_rfl) (by rfl) (fun _ _ _ h => h) hHeld (fun w1 hw1 => ?_) ?_
            rotate_left 1
            · skip
              go_simp
              (try (first | with_reducible rfl | (apply And.intro <;> rfl)))
            simp only [Act.put, List.setIfInBounds_toArray, List.set_cons_zero, List.set_cons_succ]
            refine call_at (i := 19) (f := ?_) (args := ?_) rfl (by kernel_rfl) (by rfl) ?_ ?_
            rotate_left 2
            · go_simp
              (try (first | with_reducible rfl | (apply And.intro <;> rfl)))
            refine (within_pos mk 9 HMK.out.1 HMK.out.2 (by omega) (by omega) _).mono ?_
            rw [← HMZ.out]
            rintro e_ x3 ⟨rfl, rfl⟩
            refine ⟨_, rfl, hHeld, fun hHeld => ?_⟩
            simp only [Act.put, List.setIfInBounds_toArray, List.set_cons_zero, List.set_cons_succ]
            refine run_at (i := 20) (v := ?_) rfl (by kernel_rfl) (by rfl) (fun _ _ _ h => h) hHeld (fun w1 hw1 => ?_) ?_
            rotate_left 1
            · skip
              go_simp
              (try (first | with_reducible rfl | (apply And.intro <;> rfl)))
            simp only [Act.put, List.setIfInBounds_toArray, List.set_cons_zero, List.set_cons_succ]
            refine build_at (i := 21) rfl (by kernel_rfl) (by rfl) _ _ rfl _ _ (built_sg2 b1 ((L.length : Int) + 1 + mz)) rfl (fun _ _ _ h => h) hHeld ?_
            simp only [Act.put, List.setIfInBounds_toArray, List.set_cons_zero, List.set_cons_succ]
            refine call_at (i := 26) (f := ?_) (args := ?_) rfl (by kernel_rfl) (by rfl) ?_ ?_
            rotate_left 2
            · go_simp
              (try (first | with_reducible rfl | (apply And.intro <;> rfl)))
            refine (right_any x1 S g L (HBZ.out.keep hHeld (by simp)) b1 ((L.length : Int) + 1 + mz) HW1.out r1.A r1.n r1.c t1 (HY1.out.keep hHeld (by simp)) (by have := HN1.out; unfold maxLen; omega)).mono ?_
            rw [HR2.out]
            rintro e_ x4 ⟨rfl, hf⟩
            refine ⟨_, rfl, hHeld.and hf (by simp), fun hHeld => ?_⟩
            clear hf
            simp only [Act.put, List.setIfInBounds_toArray, List.set_cons_zero, List.set_cons_succ]
            refine run_at (i := 27) (v := ?_) rfl (by kernel_rfl) (by rfl) (fun _ _ _ h => h) hHeld (fun w1 hw1 => ?_) ?_
            rotate_left 1
            · skip
              go_simp
              (try (first | with_reducible rfl | (apply And.intro <;> rfl)))
            simp only [Act.put, List.setIfInBounds_toArray, List.set_cons_zero, List.set_cons_succ]
            refine run_at (i := 28) (v := ?_) rfl (by kernel_rfl) (by rfl) (fun _ _ _ h => h) hHeld (fun w1 hw1 => ?_) ?_
            rotate_left 1
            · skip
              go_simp
              (try (first | with_reducible rfl | (apply And.intro <;> rfl)))
            simp only [Act.put, List.setIfInBounds_toArray, List.set_cons_zero, List.set_cons_succ]
            refine run_at (i := 29) (v := ?_) rfl (by kernel_rfl) (by rfl) (fun _ _ _ h => h) hHeld (fun w1 hw1 => ?_) ?_
            rotate_left 1
            · skip
              go_simp
              (try (first | with_reducible rfl | (apply And.intro <;> rfl)))
            simp only [Act.put, List.setIfInBounds_toArray, List.set_cons_zero, List.set_cons_succ]
            refine run_at (i := 30) (v := ?_) rfl (by kernel_rfl) (by rfl) (fun _ _ _ h => h) hHeld (fun w1 hw1 => ?_) ?_
            rotate_left 1
            · skip
              go_simp
              (try (first | with_reducible rfl | (apply And.intro <;> rfl)))
            simp only [Act.put, List.setIfInBounds_toArray, List.set_cons_zero, List.set_cons_succ]
            refine run_at (i := 31) (v := ?_) rfl (by kernel_rfl) (by rfl) (fun _ _ _ h => h) hHeld (fun w1 hw1 => ?_) ?_
            rotate_left 1
            · skip
              go_simp
              (try (first | with_reducible rfl | (apply And.intro <;> rfl)))
            simp only [Act.put, List.setIfInBounds_toArray, List.set_cons_zero, List.set_cons_succ]
            refine run_at (i := 32) (v := ?_) rfl (by kernel_rfl) (by rfl) (fun _ _ _ h => h) hHeld (fun w1 hw1 => ?_) ?_
            rotate_left 1
            · skip
              go_simp
              (try (first | with_reducible rfl | (apply And.intro <;> rfl)))
            simp only [Act.put, List.setIfInBounds_toArray, List.set_cons_zero, List.set_cons_succ]
            refine run_at (i := 33) (v := ?_) rfl (by kernel_rfl) (by rfl) (fun _ _ _ h => h) hHeld (fun w1 hw1 => ?_) ?_
            rotate_left 1
            · skip
              go_simp
              (try (first | with_reducible rfl | (apply And.intro <;> rfl)))
            simp only [Act.put, List.setIfInBounds_toArray, List.set_cons_zero, List.set_cons_succ]
            refine run_at (i := 34) (v := ?_) rfl (by kernel_rfl) (by rfl) (fun _ _ _ h => h) hHeld (fun w1 hw1 => ?_) ?_
            rotate_left 1
            · skip
              go_simp
              (try (first | with_reducible rfl | (apply And.intro <;> rfl)))
            simp only [Act.put, List.setIfInBounds_toArray, List.set_cons_zero, List.set_cons_succ]
            refine run_at (i := 35) (v := ?_) rfl (by kernel_rfl) (by rfl) (fun _ _ _ h => h) hHeld (fun w1 hw1 => ?_) ?_
            rotate_left 1
            · skip
              have hcw0 := hw1.cell (HC1.out) (by first | (simp; done) | exact HNS.out | exact HNW.out | (intro hm; have hlt := HSB.out _ hm; (try dsimp only at hlt); omega))
              go_simp
              (try (first | with_reducible rfl | (apply And.intro <;> rfl)))
            simp only [Act.put, List.setIfInBounds_toArray, List.set_cons_zero, List.set_cons_succ]
            refine build_at (i := 36) rfl (by kernel_rfl) (by rfl) _ _ rfl _ _ (built_sg1 b1) rfl (fun _ _ _ h => h) hHeld ?_
            simp only [Act.put, List.setIfInBounds_toArray, List.set_cons_zero, List.set_cons_succ]
            refine run_at (i := 37) (v := ?_) rfl (by kernel_rfl) (by rfl) (fun _ _ _ h => h) hHeld (fun w1 hw1 => ?_) ?_
            rotate_left 1
            · skip
              go_simp
              (try (first | with_reducible rfl | (apply And.intro <;> rfl)))
            simp only [Act.put, List.setIfInBounds_toArray, List.set_cons_zero, List.set_cons_succ]
            refine run_at (i := 38) (v := ?_) rfl (by kernel_rfl) (by rfl) (fun _ _ _ h => h) hHeld (fun w1 hw1 => ?_) ?_
            rotate_left 1
            · skip
              go_simp
              (try (first | with_reducible rfl | (apply And.intro <;> rfl)))
            simp only [Act.put, List.setIfInBounds_toArray, List.set_cons_zero, List.set_cons_succ]
            refine run_at (i := 39) (v := ?_) rfl (by kernel_rfl) (by rfl) (fun _ _ _ h => h) hHeld (fun w1 hw1 => ?_) ?_
            rotate_left 1
            · skip
              go_simp
              (try (first | with_reducible rfl | (apply And.intro <;> rfl)))
            simp only [Act.put, List.setIfInBounds_toArray, List.set_cons_zero, List.set_cons_succ]
            refine run_at (i := 40) (v := ?_) rfl (by kernel_rfl) (by rfl) (fun _ _ _ h => h) hHeld (fun w1 hw1 => ?_) ?_
            rotate_left 1
            · skip
              have hcw0 := hw1.cell (HR1.out) (by first | (simp; done) | exact HNS.out | exact HNW.out | (intro hm; have hlt := HSB.out _ hm; (try dsimp only at hlt); omega))
              go_simp
              (try (first | with_reducible rfl | (apply And.intro <;> rfl)))
            simp only [Act.put, List.setIfInBounds_toArray, List.set_cons_zero, List.set_cons_succ]
            refine call_at (i := 41) (f := ?_) (args := ?_) rfl (by kernel_rfl) (by rfl) ?_ ?_
            rotate_left 2
            · go_simp
              (try (first | with_reducible rfl | (apply And.intro <;> rfl)))
            refine (right_any x4 S g L (HBZ.out.keep hHeld (by simp)) b1 (0) HW1.out r1.A r1.n r1.c t1 (HY1.out.keep hHeld (by simp)) (by have := HN1.out; unfold maxLen; omega)).mono ?_
            rw [HR3.out]
            rintro e_ x5 ⟨rfl, hf⟩
            refine ⟨_, rfl, hHeld.and hf (by simp), fun hHeld => ?_⟩
            clear hf
            simp only [Act.put, List.setIfInBounds_toArray, List.set_cons_zero, List.set_cons_succ]
            refine run_at (i := 42) (v := ?_) rfl (by kernel_rfl) (by rfl) (fun _ _ _ h => h) hHeld (fun w1 hw1 => ?_) ?_
            rotate_left 1
            · skip
              go_simp
              (try (first | with_reducible rfl | (apply And.intro <;> rfl)))
            simp only [Act.put, List.setIfInBounds_toArray, List.set_cons_zero, List.set_cons_succ]
            refine run_at (i := 43) (v := ?_) rfl (by kernel_rfl) (by rfl) (fun _ _ _ h => h) hHeld (fun w1 hw1 => ?_) ?_
            rotate_left 1
            · skip
              go_simp
              (try (first | with_reducible rfl | (apply And.intro <;> rfl)))
            simp only [Act.put, List.setIfInBounds_toArray, List.set_cons_zero, List.set_cons_succ]
            refine run_at (i := 44) (v := ?_) rfl (by kernel_rfl) (by rfl) (fun _ _ _ h => h) hHeld (fun w1 hw1 => ?_) ?_
            rotate_left 1
            · skip
              go_simp
              (try (first | with_reducible rfl | (apply And.intro <;> rfl)))
            simp only [Act.put, List.setIfInBounds_toArray, List.set_cons_zero, List.set_cons_succ]
            refine call_at (i := 45) (f := ?_) (args := ?_) rfl (by kernel_rfl) (by rfl) ?_ ?_
            rotate_left 2
            · go_simp
              (try (first | with_reducible rfl | (apply And.intro <;> rfl)))
            refine (bwakes_any x5).mono ?_
            rintro e_ x6 ⟨rfl, hf⟩
            refine ⟨_, rfl, hHeld.and hf (by simp), fun hHeld => ?_⟩
            clear hf
            simp only [Act.put, List.setIfInBounds_toArray, List.set_cons_zero, List.set_cons_succ]
            refine run_at (i := 46) (v := ?_) rfl (by kernel_rfl) (by rfl) (fun _ _ _ h => h) hHeld (fun w1 hw1 => ?_) ?_
            rotate_left 1
            · skip
              go_simp
              (try (first | with_reducible rfl | (apply And.intro <;> rfl)))
            simp only [Act.put, List.setIfInBounds_toArray, List.set_cons_zero, List.set_cons_succ]
            refine run_at (i := 47) (v := ?_) rfl (by kernel_rfl) (by rfl) (fun _ _ _ h => h) hHeld (fun w1 hw1 => ?_) ?_
            rotate_left 1
            · skip
              go_simp
              (try (first | with_reducible rfl | (apply And.intro <;> rfl)))
            simp only [Act.put, List.setIfInBounds_toArray, List.set_cons_zero, List.set_cons_succ]
            refine wpAnyH_done (by kernel_rfl) ?_ _
            go_wp2
            go_ret
            exact ⟨rfl, HF.out.and (HFZ.out.and hHeld (by simp)) (by simp)⟩
end Go.Proofs.Ytdgbcdmooklciaa
