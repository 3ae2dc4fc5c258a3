/- Texts that the proof stands on: gavelkeep's Cert, Promise, Batch of parts that say the same, wherever they lie. (written by gen_keq.py) | Equality of acks, entries, whatever they say. (written by gen_mq.py) | What is behind a false '&&': operations that are not met, picks and moves, all at once. | gavelkeep's Proposal and Msg, wherever the parts lie. (written by gen_mke.py) | What a message's kind names is all that its bytes hang on. | gavellaw06.MsgOnly, walked. (written by gen_mow.py) | gavelref01's small writers: a name, a signature, a commitment, a stamp, an ack, a denial, a vote, an opening; what is signed of them. (written by gen_doc.py) -/
import Derived.Test.YtpcnedpheplofaaGreatKP5
import Derived.Test.YtpcnedpheplofaaGreatMem
import Derived.Test.YtpcnedpheplofaaGreatReg
import Derived.Deep.CutBlock
import Derived.Test.YtpcnedpheplofaaGreatRefTx
set_option linter.unusedSimpArgs false
set_option linter.unusedVariables false
set_option maxRecDepth 100000

namespace Go.Proofs.YtpcnedpheplofaaGreat
open Go.RowKit
set_option maxRecDepth 100000
theorem map_at {α β : Type} {f : α → β} {l m : List α} {j : Nat} {v u : α} (h : l.map f = m.map f) (hv : l[j]? = some v) (hu : m[j]? = some u) : f v = f u := by
 have h1 := congrArg (·[j]?) h
 simpa [hv, hu] using h1
theorem eq_Wcm (x : Wcm) (hh : x.h.length = 32) (w : World) : (Op.equalIn 10000 29 (.agg x.cells.toArray) (.agg x.cells.toArray)).run Tryz.prog w = .ok true w := commit_self ⟨x.c, x.s, x.h, x.n, x.b, x.m⟩ hh w
theorem Wce.Ok.li {w : World} {S : List Nat} {x : Wce} (h : x.Ok w S) : x.Li w S := ⟨h.k, h.l, Nat.le_trans h.n (by omega), h.ap⟩
theorem Wtb.Ok.li {w : World} {S : List Nat} {x : Wtb} (h : x.Ok w S) : x.Li w S := ⟨h.i, h.l, Nat.le_trans h.n (by omega), h.ap⟩
theorem Wpr.Ok.li {w : World} {S : List Nat} {x : Wpr} (h : x.Ok w S) : x.Li w S := ⟨h.r, h.e, h.t, ⟨h.l.1, fun v hv => ⟨(h.l.2.1 v hv).1, (h.l.2.1 v hv).2.li⟩, h.l.2.2⟩, Nat.le_trans h.n (by omega), h.ap, h.b, h.m⟩
theorem Wba.Ok.li {w : World} {S : List Nat} {x : Wba} (h : x.Ok w S) : x.Li w S := ⟨h.e, h.t, ⟨h.l.1, fun v hv => ⟨(h.l.2.1 v hv).1, (h.l.2.1 v hv).2.li⟩, h.l.2.2⟩, Nat.le_trans h.n (by omega), h.ap, h.l2, Nat.le_trans h.n2 (by omega), h.ap2, ⟨h.l3.1, fun v hv => ⟨(h.l3.2.1 v hv).1, (h.l3.2.1 v hv).2.li⟩, h.l3.2.2⟩, Nat.le_trans h.n3 (by omega), h.ap3⟩
set_option maxHeartbeats 2000000 in
theorem opening_eq (x y : Wop) (w : World) (hx : x.Ok w []) (hy : y.Ok w []) (he : x.con = y.con) (C D : List Value) (hC : x.cells = C) (hD : y.cells = D) :
  Calls Tryz.prog 47 #[.agg C.toArray, .agg D.toArray] w fun e w' => e = .returned (.bool true) ∧ Fr [] w w' := by
 obtain ⟨wa, hwa⟩ : ∃ wa, wa = (w.alloc (Obj.cells C.toArray 54)).alloc (Obj.cells D.toArray 54) := ⟨_, rfl⟩
 have hf0 : Fr [] w wa := by rw [hwa]; exact ((Fr.refl [] w).alloc _).alloc _
 have hb0 : Blk wa w.heap.size 54 x.cells.toArray := by rw [hwa, hC]; exact blk_alloc (Blk.new _ _ _)
 have hb1 : Blk wa (w.heap.size + 1) 54 y.cells.toArray := by
  have := Blk.new (w.alloc (Obj.cells C.toArray 54)) 54 D.toArray
  rw [hwa, hD]
  simpa using this
 obtain ⟨i, A, n, d, p, h⟩ := x
 obtain ⟨i', B, m, d', p', h'⟩ := y
 unfold Wop.con at he
 simp only [Cop.mk.injEq] at he
 obtain ⟨rfl, rfl, rfl⟩ := he
 have hr0 := hb0.range
 have hr1 := hb1.range
 have h00 : wa.cell? ⟨w.heap.size, 0, none⟩ = some (.int .i64 i) := by have h := hr0 0 _ rfl; simpa using h
 have h10 : wa.cell? ⟨w.heap.size + 1, 0, none⟩ = some (.int .i64 i) := by have h := hr1 0 _ rfl; simpa using h
 have h01 : wa.cell? ⟨w.heap.size, 1, none⟩ = some (.slice A n d) := by have h := hr0 1 _ rfl; simpa using h
 have h11 : wa.cell? ⟨w.heap.size + 1, 1, none⟩ = some (.slice B m d') := by have h := hr1 1 _ rfl; simpa using h
 have HH0 : Hid (wa.rangeAt w.heap.size 2 (h.map by8)) := Lib.hid (rangeAt_sub (o := 0) (xs := [.int .i64 i, .slice A n d]) (ys := h.map by8) (zs := []) hr0)
 have HH1 : Hid (wa.rangeAt (w.heap.size + 1) 2 (h.map by8)) := Lib.hid (rangeAt_sub (o := 0) (xs := [.int .i64 i, .slice B m d']) (ys := h.map by8) (zs := []) hr1)
 have HHL : Hid ((h.map by8).length = 32) := Lib.hid (by rw [List.length_map]; exact hx.h)
 have HEQ : Hid ((Op.equalIn 10000 25 (.agg (h.map by8).toArray) (.agg (h.map by8).toArray)).run Tryz.prog wa = .ok true wa) := Lib.hid (by
  have h := eql_hash h h hx.h hx.h 9998 wa
  simpa using h)
 have HF0 := Lib.hid hf0
 have HWA := Lib.hid hwa
 have HX := Lib.hid hx
 have HY := Lib.hid hy
 have hii : (i == i) = true := by simp
 clear hwa hf0 hb0 hb1 hr0 hr1 hx hy hC hD
 generalize hHV : h.map by8 = HV at *
 clear hHV
 go_enter Tryz.func47, Tryz.ntmps47
 go_upto_region 1 with (fail)
 change Code.wp _ _ _ _ ((w.alloc (Obj.cells C.toArray 54)).alloc (Obj.cells D.toArray 54))
 rw [← HWA.out]
 go_wp2_with (first
  | (refine wpList_midg rfl 25 _ rfl w.heap.size 2 rfl HV HH0.out (row_hs.of HHL.out) ?_)
  | (refine wpList_midg rfl 25 _ rfl (w.heap.size + 1) 2 rfl HV HH1.out (row_hs.of HHL.out) ?_)
  | (refine wpList_eqlg rfl 25 _ _ _ rfl HV.toArray HV.toArray rfl rfl true (by kernel_rfl) HEQ.out ?_))
 refine (same_any A B n m d d' p p wa (HX.out.p.keep HF0.out (by simp)) (HY.out.p.keep HF0.out (by simp)) (by have h1 : n ≤ 260 := HX.out.n; omega)).mono ?_
 rintro e w1 ⟨rfl, k1, hw1⟩
 simp only [decide_true]
 have HF1 : Hid (Fr [] w w1) := Lib.hid (by rw [hw1]; exact HF0.out.drewN _)
 clear hw1 h00 h10 h01 h11 hii
 go_wp2
 go_ret
 exact ⟨rfl, HF1.out⟩
set_option maxHeartbeats 4000000 in
theorem denies_eq (A B : Option Addr) (n d d' : Nat) (l m : List Wdn) (w : World) (hl : Lst 4 Wdn.cells (fun _ v => v.Ok) w A n l) (hm : Lst 4 Wdn.cells (fun _ v => v.Ok) w B n m) (hlm : l.map id = m.map id) (hn : n ≤ 1000) :
  Calls Tryz.prog 130 #[.slice A n d, .slice B n d'] w fun e w' => e = .returned (.bool true) ∧ Fr [] w w' := by
 have HL := Lib.hid hl
 have HM := Lib.hid hm
 have HLM := Lib.hid hlm
 have HN := Lib.hid hn
 have hn1 : (n : Int) ≤ 9223372036854775807 := by omega
 have hnn : ((n : Int) != (n : Int)) = false := by simp
 clear hl hm hn hlm
 go_enter Tryz.func130, Tryz.ntmps130
 go_wp2_with fail
 clear hnn
 go_loopw [5] (fun i wr => ∃ j : Nat, j ≤ n ∧ i = .int .i64 j ∧ Hid (Fr [] w wr)) (fun i _ => n - (intOf i).toNat)
 case atStart => exact ⟨0, by omega, rfl, Lib.hid (Fr.refl _ _)⟩
 case round =>
  obtain ⟨j, hj, rfl, HF⟩ := hrel
  by_cases hlt : j < n
  · obtain ⟨ad, v, hA, hv, hcl, hok, hcells⟩ := HL.out.at (i := j) hlt
    obtain ⟨bd, u, hB, hu, hclu, hoku, hcellu⟩ := HM.out.at (i := j) hlt
    subst hA
    subst hB
    have HVU := Lib.hid (map_at HLM.out hv hu)
    have HCELLS : Hid (∀ i c, (Wdn.cells v)[i]? = some c → wr.cell? ((ad.add (j * 4)).add i) = some c) := Lib.hid (fun i c hc => HF.out.cell (hcells i c hc) (by simp))
    have HCELLU : Hid (∀ i c, (Wdn.cells u)[i]? = some c → wr.cell? ((bd.add (j * 4)).add i) = some c) := Lib.hid (fun i c hc => HF.out.cell (hcellu i c hc) (by simp))
    have HCL := Lib.hid hcl
    have HCLU := Lib.hid hclu
    have HOK := Lib.hid hok
    have HOKU := Lib.hid hoku
    have HJN := Lib.hid hlt
    have hj0 : (0 : Int) ≤ j := by omega
    clear hcells hcl hok hv hcellu hclu hoku hu
    have hvu : v = u := HVU.out
    subst hvu
    have HEQ : Hid (∀ W : World, (Op.equalIn 10000 56 (.agg v.cells.toArray) (.agg v.cells.toArray)).run Tryz.prog W = .ok true W) := Lib.hid (fun W => by have h := eql_Wdn v v W; rw [(Wdn.eqB_iff v v).2 rfl] at h; exact h)
    go_upto_region 6 with (fail)
    refine wp_region_held_drew (S := Fr [] wr) (by kernel_rfl) (Fr.drew (Fr.refl _ wr)) (fun hHeld => ?_)
    generalize wr.drew = w9 at *
    refine run_at (i := 0) (v := ?_) rfl (by kernel_rfl) (by rfl) (fun _ _ _ h => h) hHeld (fun w1 hw1 => ?_) ?_
    rotate_left 1
    · skip
      go_simp
      try first | with_reducible rfl | apply And.intro <;> rfl
    simp only [xPa, xPb, xPc, xPd, xPe]
    refine run_at (i := 1) (v := ?_) rfl (by kernel_rfl) (by rfl) (fun _ _ _ h => h) hHeld (fun w1 hw1 => ?_) ?_
    rotate_left 1
    · skip
      go_simp
      try first | with_reducible rfl | apply And.intro <;> rfl
    simp only [xPa, xPb, xPc, xPd, xPe]
    refine run_at (i := 2) (v := ?_) rfl (by kernel_rfl) (by rfl) (fun _ _ _ h => h) hHeld (fun w1 hw1 => ?_) ?_
    rotate_left 1
    · skip
      go_simp
      try first | with_reducible rfl | apply And.intro <;> rfl
    simp only [xPa, xPb, xPc, xPd, xPe]
    refine crow_at (i := 3) rfl (by kernel_rfl) (by rfl) _ _ rfl _ rfl _ (fun w1 hw1 j v hv => hw1.cell ((HCELLS.out) j v hv) (by simp)) (row_dnS.of HCL.out) (fun _ _ _ h => h) hHeld ?_
    simp only [xPa, xPb, xPc, xPd, xPe]
    refine run_at (i := 4) (v := ?_) rfl (by kernel_rfl) (by rfl) (fun _ _ _ h => h) hHeld (fun w1 hw1 => ?_) ?_
    rotate_left 1
    · skip
      go_simp
      try first | with_reducible rfl | apply And.intro <;> rfl
    simp only [xPa, xPb, xPc, xPd, xPe]
    refine run_at (i := 5) (v := ?_) rfl (by kernel_rfl) (by rfl) (fun _ _ _ h => h) hHeld (fun w1 hw1 => ?_) ?_
    rotate_left 1
    · skip
      go_simp
      try first | with_reducible rfl | apply And.intro <;> rfl
    simp only [xPa, xPb, xPc, xPd, xPe]
    refine run_at (i := 6) (v := ?_) rfl (by kernel_rfl) (by rfl) (fun _ _ _ h => h) hHeld (fun w1 hw1 => ?_) ?_
    rotate_left 1
    · skip
      go_simp
      try first | with_reducible rfl | apply And.intro <;> rfl
    simp only [xPa, xPb, xPc, xPd, xPe]
    refine crow_at (i := 7) rfl (by kernel_rfl) (by rfl) _ _ rfl _ rfl _ (fun w1 hw1 j v hv => hw1.cell ((HCELLU.out) j v hv) (by simp)) (row_dnS.of HCLU.out) (fun _ _ _ h => h) hHeld ?_
    simp only [xPa, xPb, xPc, xPd, xPe]
    refine neq_at (i := 8) rfl (by kernel_rfl) (by rfl) _ _ _ _ rfl _ _ rfl rfl _ (by kernel_rfl) (HEQ.out) (fun _ _ _ h => h) hHeld ?_
    simp only [xPa, xPb, xPc, xPd, xPe]
    refine wpAnyH_done (by kernel_rfl) ?_ _
    have HF9 : Hid (Fr [] w w9) := Lib.hid (HF.out.and hHeld (by simp))
    clear hHeld HCELLS HCL HCELLU HCLU HVU
    clear HOK HOKU
    go_wp2
    go_roundw
    case rel => exact ⟨j + 1, by have := HJN.out; omega, by go_num, HF9⟩
    case measure => have := HJN.out; simp [intOf]; omega
  · have hjn : n = j := by omega
    subst hjn
    clear hlt hj
    go_wp2
    go_ret
    exact ⟨rfl, HF.out⟩
set_option maxHeartbeats 4000000 in
theorem stamps_eq (A B : Option Addr) (n d d' : Nat) (l m : List Wst) (w : World) (hl : Lst 38 Wst.cells (fun _ v => v.Ok) w A n l) (hm : Lst 38 Wst.cells (fun _ v => v.Ok) w B n m) (hlm : l.map id = m.map id) (hn : n ≤ 1000) :
  Calls Tryz.prog 93 #[.slice A n d, .slice B n d'] w fun e w' => e = .returned (.bool true) ∧ Fr [] w w' := by
 have HL := Lib.hid hl
 have HM := Lib.hid hm
 have HLM := Lib.hid hlm
 have HN := Lib.hid hn
 have hn1 : (n : Int) ≤ 9223372036854775807 := by omega
 have hnn : ((n : Int) != (n : Int)) = false := by simp
 clear hl hm hn hlm
 go_enter Tryz.func93, Tryz.ntmps93
 go_wp2_with fail
 clear hnn
 go_loopw [5] (fun i wr => ∃ j : Nat, j ≤ n ∧ i = .int .i64 j ∧ Hid (Fr [] w wr)) (fun i _ => n - (intOf i).toNat)
 case atStart => exact ⟨0, by omega, rfl, Lib.hid (Fr.refl _ _)⟩
 case round =>
  obtain ⟨j, hj, rfl, HF⟩ := hrel
  by_cases hlt : j < n
  · obtain ⟨ad, v, hA, hv, hcl, hok, hcells⟩ := HL.out.at (i := j) hlt
    obtain ⟨bd, u, hB, hu, hclu, hoku, hcellu⟩ := HM.out.at (i := j) hlt
    subst hA
    subst hB
    have HVU := Lib.hid (map_at HLM.out hv hu)
    have HCELLS : Hid (∀ i c, (Wst.cells v)[i]? = some c → wr.cell? ((ad.add (j * 38)).add i) = some c) := Lib.hid (fun i c hc => HF.out.cell (hcells i c hc) (by simp))
    have HCELLU : Hid (∀ i c, (Wst.cells u)[i]? = some c → wr.cell? ((bd.add (j * 38)).add i) = some c) := Lib.hid (fun i c hc => HF.out.cell (hcellu i c hc) (by simp))
    have HCL := Lib.hid hcl
    have HCLU := Lib.hid hclu
    have HOK := Lib.hid hok
    have HOKU := Lib.hid hoku
    have HJN := Lib.hid hlt
    have hj0 : (0 : Int) ≤ j := by omega
    clear hcells hcl hok hv hcellu hclu hoku hu
    have hvu : v = u := HVU.out
    subst hvu
    have HEQ : Hid (∀ W : World, (Op.equalIn 10000 32 (.agg v.cells.toArray) (.agg v.cells.toArray)).run Tryz.prog W = .ok true W) := Lib.hid (fun W => by have h := eql_Wst v v HOK.out.h HOK.out.h W; rw [(Wst.eqB_iff v v).2 rfl] at h; exact h)
    go_upto_region 6 with (fail)
    refine wp_region_held_drew (S := Fr [] wr) (by kernel_rfl) (Fr.drew (Fr.refl _ wr)) (fun hHeld => ?_)
    generalize wr.drew = w9 at *
    refine run_at (i := 0) (v := ?_) rfl (by kernel_rfl) (by rfl) (fun _ _ _ h => h) hHeld (fun w1 hw1 => ?_) ?_
    rotate_left 1
    · skip
      go_simp
      try first | with_reducible rfl | apply And.intro <;> rfl
    simp only [xPa, xPb, xPc, xPd, xPe]
    refine run_at (i := 1) (v := ?_) rfl (by kernel_rfl) (by rfl) (fun _ _ _ h => h) hHeld (fun w1 hw1 => ?_) ?_
    rotate_left 1
    · skip
      go_simp
      try first | with_reducible rfl | apply And.intro <;> rfl
    simp only [xPa, xPb, xPc, xPd, xPe]
    refine run_at (i := 2) (v := ?_) rfl (by kernel_rfl) (by rfl) (fun _ _ _ h => h) hHeld (fun w1 hw1 => ?_) ?_
    rotate_left 1
    · skip
      go_simp
      try first | with_reducible rfl | apply And.intro <;> rfl
    simp only [xPa, xPb, xPc, xPd, xPe]
    refine crow_at (i := 3) rfl (by kernel_rfl) (by rfl) _ _ rfl _ rfl _ (fun w1 hw1 j v hv => hw1.cell ((HCELLS.out) j v hv) (by simp)) (row_stm.of HCL.out) (fun _ _ _ h => h) hHeld ?_
    simp only [xPa, xPb, xPc, xPd, xPe]
    refine run_at (i := 4) (v := ?_) rfl (by kernel_rfl) (by rfl) (fun _ _ _ h => h) hHeld (fun w1 hw1 => ?_) ?_
    rotate_left 1
    · skip
      go_simp
      try first | with_reducible rfl | apply And.intro <;> rfl
    simp only [xPa, xPb, xPc, xPd, xPe]
    refine run_at (i := 5) (v := ?_) rfl (by kernel_rfl) (by rfl) (fun _ _ _ h => h) hHeld (fun w1 hw1 => ?_) ?_
    rotate_left 1
    · skip
      go_simp
      try first | with_reducible rfl | apply And.intro <;> rfl
    simp only [xPa, xPb, xPc, xPd, xPe]
    refine run_at (i := 6) (v := ?_) rfl (by kernel_rfl) (by rfl) (fun _ _ _ h => h) hHeld (fun w1 hw1 => ?_) ?_
    rotate_left 1
    · skip
      go_simp
      try first | with_reducible rfl | apply And.intro <;> rfl
    simp only [xPa, xPb, xPc, xPd, xPe]
    refine crow_at (i := 7) rfl (by kernel_rfl) (by rfl) _ _ rfl _ rfl _ (fun w1 hw1 j v hv => hw1.cell ((HCELLU.out) j v hv) (by simp)) (row_stm.of HCLU.out) (fun _ _ _ h => h) hHeld ?_
    simp only [xPa, xPb, xPc, xPd, xPe]
    refine neq_at (i := 8) rfl (by kernel_rfl) (by rfl) _ _ _ _ rfl _ _ rfl rfl _ (by kernel_rfl) (HEQ.out) (fun _ _ _ h => h) hHeld ?_
    simp only [xPa, xPb, xPc, xPd, xPe]
    refine wpAnyH_done (by kernel_rfl) ?_ _
    have HF9 : Hid (Fr [] w w9) := Lib.hid (HF.out.and hHeld (by simp))
    clear hHeld HCELLS HCL HCELLU HCLU HVU
    clear HOK HOKU
    go_wp2
    go_roundw
    case rel => exact ⟨j + 1, by have := HJN.out; omega, by go_num, HF9⟩
    case measure => have := HJN.out; simp [intOf]; omega
  · have hjn : n = j := by omega
    subst hjn
    clear hlt hj
    go_wp2
    go_ret
    exact ⟨rfl, HF.out⟩
set_option maxHeartbeats 4000000 in
theorem openings_eq (A B : Option Addr) (n d d' : Nat) (l m : List Wop) (w : World) (hl : Lst 34 Wop.cells (fun w v => v.Ok w []) w A n l) (hm : Lst 34 Wop.cells (fun w v => v.Ok w []) w B n m) (hlm : l.map Wop.con = m.map Wop.con) (hn : n ≤ 1000) :
  Calls Tryz.prog 95 #[.slice A n d, .slice B n d'] w fun e w' => e = .returned (.bool true) ∧ Fr [] w w' := by
 have HL := Lib.hid hl
 have HM := Lib.hid hm
 have HLM := Lib.hid hlm
 have HN := Lib.hid hn
 have hn1 : (n : Int) ≤ 9223372036854775807 := by omega
 have hnn : ((n : Int) != (n : Int)) = false := by simp
 clear hl hm hn hlm
 go_enter Tryz.func95, Tryz.ntmps95
 go_wp2_with fail
 clear hnn
 go_loopw [13] (fun i wr => ∃ j : Nat, j ≤ n ∧ i = .int .i64 j ∧ Hid (Fr [] w wr)) (fun i _ => n - (intOf i).toNat)
 case atStart => exact ⟨0, by omega, rfl, Lib.hid (Fr.refl _ _)⟩
 case round =>
  obtain ⟨j, hj, rfl, HF⟩ := hrel
  by_cases hlt : j < n
  · obtain ⟨ad, v, hA, hv, hcl, hok, hcells⟩ := HL.out.at (i := j) hlt
    obtain ⟨bd, u, hB, hu, hclu, hoku, hcellu⟩ := HM.out.at (i := j) hlt
    subst hA
    subst hB
    have HVU := Lib.hid (map_at HLM.out hv hu)
    have HCELLS : Hid (∀ i c, (Wop.cells v)[i]? = some c → wr.cell? ((ad.add (j * 34)).add i) = some c) := Lib.hid (fun i c hc => HF.out.cell (hcells i c hc) (by simp))
    have HCELLU : Hid (∀ i c, (Wop.cells u)[i]? = some c → wr.cell? ((bd.add (j * 34)).add i) = some c) := Lib.hid (fun i c hc => HF.out.cell (hcellu i c hc) (by simp))
    have HCL := Lib.hid hcl
    have HCLU := Lib.hid hclu
    have HOK := Lib.hid hok
    have HOKU := Lib.hid hoku
    have HJN := Lib.hid hlt
    have hj0 : (0 : Int) ≤ j := by omega
    clear hcells hcl hok hv hcellu hclu hoku hu
    go_upto_region 6 with (fail)
    refine wp_region_held_drew (S := Fr [] wr) (by kernel_rfl) (Fr.drew (Fr.refl _ wr)) (fun hHeld => ?_)
    generalize wr.drew = wd at *
    refine run_at (i := 0) (v := ?_) rfl (by kernel_rfl) (by rfl) (fun _ _ _ h => h) hHeld (fun w1 hw1 => ?_) ?_
    rotate_left 1
    · skip
      go_simp
      try first | with_reducible rfl | apply And.intro <;> rfl
    simp only [xPa, xPb, xPc, xPd, xPe]
    refine run_at (i := 1) (v := ?_) rfl (by kernel_rfl) (by rfl) (fun _ _ _ h => h) hHeld (fun w1 hw1 => ?_) ?_
    rotate_left 1
    · skip
      go_simp
      try first | with_reducible rfl | apply And.intro <;> rfl
    simp only [xPa, xPb, xPc, xPd, xPe]
    refine run_at (i := 2) (v := ?_) rfl (by kernel_rfl) (by rfl) (fun _ _ _ h => h) hHeld (fun w1 hw1 => ?_) ?_
    rotate_left 1
    · skip
      go_simp
      try first | with_reducible rfl | apply And.intro <;> rfl
    simp only [xPa, xPb, xPc, xPd, xPe]
    refine crow_at (i := 3) rfl (by kernel_rfl) (by rfl) _ _ rfl _ rfl _ (fun w1 hw1 j v hv => hw1.cell ((HCELLS.out) j v hv) (by simp)) (row_opS.of HCL.out) (fun _ _ _ h => h) hHeld ?_
    simp only [xPa, xPb, xPc, xPd, xPe]
    refine run_at (i := 4) (v := ?_) rfl (by kernel_rfl) (by rfl) (fun _ _ _ h => h) hHeld (fun w1 hw1 => ?_) ?_
    rotate_left 1
    · skip
      go_simp
      try first | with_reducible rfl | apply And.intro <;> rfl
    simp only [xPa, xPb, xPc, xPd, xPe]
    refine run_at (i := 5) (v := ?_) rfl (by kernel_rfl) (by rfl) (fun _ _ _ h => h) hHeld (fun w1 hw1 => ?_) ?_
    rotate_left 1
    · skip
      go_simp
      try first | with_reducible rfl | apply And.intro <;> rfl
    simp only [xPa, xPb, xPc, xPd, xPe]
    refine run_at (i := 6) (v := ?_) rfl (by kernel_rfl) (by rfl) (fun _ _ _ h => h) hHeld (fun w1 hw1 => ?_) ?_
    rotate_left 1
    · skip
      go_simp
      try first | with_reducible rfl | apply And.intro <;> rfl
    simp only [xPa, xPb, xPc, xPd, xPe]
    refine crow_at (i := 7) rfl (by kernel_rfl) (by rfl) _ _ rfl _ rfl _ (fun w1 hw1 j v hv => hw1.cell ((HCELLU.out) j v hv) (by simp)) (row_opS.of HCLU.out) (fun _ _ _ h => h) hHeld ?_
    simp only [xPa, xPb, xPc, xPd, xPe]
    refine call_at (i := 8) (f := ?_) (args := ?_) rfl (by kernel_rfl) (by rfl) ?_ ?_
    rotate_left 2
    · go_simp
      try first | with_reducible rfl | apply And.intro <;> rfl
    refine (opening_eq v u wd (Wop.Ok.keep HOK.out (HF.out.and hHeld (by simp)) (by simp)) (Wop.Ok.keep HOKU.out (HF.out.and hHeld (by simp)) (by simp)) HVU.out _ _ rfl rfl).mono ?_
    rintro e_ w9 ⟨rfl, hf⟩
    refine ⟨_, rfl, hHeld.and hf (by simp), fun hHeld => ?_⟩
    clear hf
    simp only [xPa, xPb, xPc, xPd, xPe]
    refine run_at (i := 9) (v := ?_) rfl (by kernel_rfl) (by rfl) (fun _ _ _ h => h) hHeld (fun w1 hw1 => ?_) ?_
    rotate_left 1
    · skip
      go_simp
      try first | with_reducible rfl | apply And.intro <;> rfl
    simp only [xPa, xPb, xPc, xPd, xPe]
    refine wpAnyH_done (by kernel_rfl) ?_ _
    have HF9 : Hid (Fr [] w w9) := Lib.hid (HF.out.and hHeld (by simp))
    clear hHeld HCELLS HCL HCELLU HCLU HVU
    clear HOK HOKU
    go_wp2
    go_roundw
    case rel => exact ⟨j + 1, by have := HJN.out; omega, by go_num, HF9⟩
    case measure => have := HJN.out; simp [intOf]; omega
  · have hjn : n = j := by omega
    subst hjn
    clear hlt hj
    go_wp2
    go_ret
    exact ⟨rfl, HF.out⟩
set_option maxHeartbeats 4000000 in
theorem tombs_eq (A B : Option Addr) (n d d' : Nat) (l m : List Wtb) (w : World) (hl : Lst 2 Wtb.cells (fun w v => v.Li w []) w A n l) (hm : Lst 2 Wtb.cells (fun w v => v.Li w []) w B n m) (hlm : l.map Wtb.con = m.map Wtb.con) (hn : n ≤ 1000) :
  Calls Tryz.prog 96 #[.slice A n d, .slice B n d'] w fun e w' => e = .returned (.bool true) ∧ Fr [] w w' := by
 have HL := Lib.hid hl
 have HM := Lib.hid hm
 have HLM := Lib.hid hlm
 have HN := Lib.hid hn
 have hn1 : (n : Int) ≤ 9223372036854775807 := by omega
 have hnn : ((n : Int) != (n : Int)) = false := by simp
 clear hl hm hn hlm
 go_enter Tryz.func96, Tryz.ntmps96
 go_wp2_with fail
 clear hnn
 go_loopw [13] (fun i wr => ∃ j : Nat, j ≤ n ∧ i = .int .i64 j ∧ Hid (Fr [] w wr)) (fun i _ => n - (intOf i).toNat)
 case atStart => exact ⟨0, by omega, rfl, Lib.hid (Fr.refl _ _)⟩
 case round =>
  obtain ⟨j, hj, rfl, HF⟩ := hrel
  by_cases hlt : j < n
  · obtain ⟨ad, v, hA, hv, hcl, hok, hcells⟩ := HL.out.at (i := j) hlt
    obtain ⟨bd, u, hB, hu, hclu, hoku, hcellu⟩ := HM.out.at (i := j) hlt
    subst hA
    subst hB
    have HVU := Lib.hid (map_at HLM.out hv hu)
    have HCELLS : Hid (∀ i c, (Wtb.cells v)[i]? = some c → wr.cell? ((ad.add (j * 2)).add i) = some c) := Lib.hid (fun i c hc => HF.out.cell (hcells i c hc) (by simp))
    have HCELLU : Hid (∀ i c, (Wtb.cells u)[i]? = some c → wr.cell? ((bd.add (j * 2)).add i) = some c) := Lib.hid (fun i c hc => HF.out.cell (hcellu i c hc) (by simp))
    have HCL := Lib.hid hcl
    have HCLU := Lib.hid hclu
    have HOK := Lib.hid hok
    have HOKU := Lib.hid hoku
    have HJN := Lib.hid hlt
    have hj0 : (0 : Int) ≤ j := by omega
    clear hcells hcl hok hv hcellu hclu hoku hu
    have HC0 : Hid (wr.cell? (ad.add (j * 2)) = some (.int .i64 v.i)) := Lib.hid (by have h := HCELLS.out 0 _ rfl; simpa [Addr.add] using h)
    have HC1 : Hid (wr.cell? ⟨(ad.add (j * 2)).block, (ad.add (j * 2)).off + 1, none⟩ = some (.slice v.A v.n v.d)) := Lib.hid (by have h := HCELLS.out 1 _ rfl; rw [fld_add] at h; exact h)
    have HVI : Hid (v.i = u.i ∧ v.l = u.l) := Lib.hid (by have h := HVU.out; unfold Wtb.con at h; simpa using h)
    have HD0 : Hid (wr.cell? (bd.add (j * 2)) = some (.int .i64 v.i)) := Lib.hid (by rw [HVI.out.1]; have h := HCELLU.out 0 _ rfl; simpa [Addr.add] using h)
    have HNN : Hid (u.n = v.n) := Lib.hid (by rw [← HOKU.out.l.1, ← HOK.out.l.1, HVI.out.2])
    have HD1 : Hid (wr.cell? ⟨(bd.add (j * 2)).block, (bd.add (j * 2)).off + 1, none⟩ = some (.slice u.A v.n u.d)) := Lib.hid (by rw [← HNN.out]; have h := HCELLU.out 1 _ rfl; rw [fld_add] at h; exact h)
    have HII : Hid ((v.i != v.i) = false) := Lib.hid (by simp)
    go_upto_region 6 with (fail)
    refine wp_region_held_drew (S := Fr [] wr) (by kernel_rfl) (Fr.drew (Fr.refl _ wr)) (fun hHeld => ?_)
    generalize wr.drew = wd at *
    refine run_at (i := 0) (v := ?_) rfl (by kernel_rfl) (by rfl) (fun _ _ _ h => h) hHeld (fun w1 hw1 => ?_) ?_
    rotate_left 1
    · skip
      go_simp
      try first | with_reducible rfl | apply And.intro <;> rfl
    simp only [xPa, xPb, xPc, xPd, xPe]
    refine run_at (i := 1) (v := ?_) rfl (by kernel_rfl) (by rfl) (fun _ _ _ h => h) hHeld (fun w1 hw1 => ?_) ?_
    rotate_left 1
    · skip
      go_simp
      try first | with_reducible rfl | apply And.intro <;> rfl
    simp only [xPa, xPb, xPc, xPd, xPe]
    refine run_at (i := 2) (v := ?_) rfl (by kernel_rfl) (by rfl) (fun _ _ _ h => h) hHeld (fun w1 hw1 => ?_) ?_
    rotate_left 1
    · skip
      go_simp
      try first | with_reducible rfl | apply And.intro <;> rfl
    simp only [xPa, xPb, xPc, xPd, xPe]
    refine run_at (i := 3) (v := ?_) rfl (by kernel_rfl) (by rfl) (fun _ _ _ h => h) hHeld (fun w1 hw1 => ?_) ?_
    rotate_left 1
    · skip
      go_simp
      try first | with_reducible rfl | apply And.intro <;> rfl
    simp only [xPa, xPb, xPc, xPd, xPe]
    refine run_at (i := 4) (v := ?_) rfl (by kernel_rfl) (by rfl) (fun _ _ _ h => h) hHeld (fun w1 hw1 => ?_) ?_
    rotate_left 1
    · skip
      have hcw0 := hw1.cell (HC0.out) (by simp)
      go_simp
      try first | with_reducible rfl | apply And.intro <;> rfl
    simp only [xPa, xPb, xPc, xPd, xPe]
    refine run_at (i := 5) (v := ?_) rfl (by kernel_rfl) (by rfl) (fun _ _ _ h => h) hHeld (fun w1 hw1 => ?_) ?_
    rotate_left 1
    · skip
      go_simp
      try first | with_reducible rfl | apply And.intro <;> rfl
    simp only [xPa, xPb, xPc, xPd, xPe]
    refine run_at (i := 6) (v := ?_) rfl (by kernel_rfl) (by rfl) (fun _ _ _ h => h) hHeld (fun w1 hw1 => ?_) ?_
    rotate_left 1
    · skip
      go_simp
      try first | with_reducible rfl | apply And.intro <;> rfl
    simp only [xPa, xPb, xPc, xPd, xPe]
    refine run_at (i := 7) (v := ?_) rfl (by kernel_rfl) (by rfl) (fun _ _ _ h => h) hHeld (fun w1 hw1 => ?_) ?_
    rotate_left 1
    · skip
      go_simp
      try first | with_reducible rfl | apply And.intro <;> rfl
    simp only [xPa, xPb, xPc, xPd, xPe]
    refine run_at (i := 8) (v := ?_) rfl (by kernel_rfl) (by rfl) (fun _ _ _ h => h) hHeld (fun w1 hw1 => ?_) ?_
    rotate_left 1
    · skip
      go_simp
      try first | with_reducible rfl | apply And.intro <;> rfl
    simp only [xPa, xPb, xPc, xPd, xPe]
    refine run_at (i := 9) (v := ?_) rfl (by kernel_rfl) (by rfl) (fun _ _ _ h => h) hHeld (fun w1 hw1 => ?_) ?_
    rotate_left 1
    · skip
      have hcw0 := hw1.cell (HD0.out) (by simp)
      go_simp
      try first | with_reducible rfl | apply And.intro <;> rfl
    simp only [xPa, xPb, xPc, xPd, xPe]
    refine run_at (i := 10) (v := ?_) rfl (by kernel_rfl) (by rfl) (fun _ _ _ h => h) hHeld (fun w1 hw1 => ?_) ?_
    rotate_left 1
    · skip
      go_simp
      try first | with_reducible rfl | apply And.intro <;> rfl
    simp only [xPa, xPb, xPc, xPd, xPe]
    try rw [HII.out]
    refine run_at (i := 11) (v := ?_) rfl (by kernel_rfl) (by rfl) (fun _ _ _ h => h) hHeld (fun w1 hw1 => ?_) ?_
    rotate_left 1
    · skip
      go_simp
      try first | with_reducible rfl | apply And.intro <;> rfl
    simp only [xPa, xPb, xPc, xPd, xPe]
    refine run_at (i := 12) (v := ?_) rfl (by kernel_rfl) (by rfl) (fun _ _ _ h => h) hHeld (fun w1 hw1 => ?_) ?_
    rotate_left 1
    · skip
      go_simp
      try first | with_reducible rfl | apply And.intro <;> rfl
    simp only [xPa, xPb, xPc, xPd, xPe]
    refine run_at (i := 13) (v := ?_) rfl (by kernel_rfl) (by rfl) (fun _ _ _ h => h) hHeld (fun w1 hw1 => ?_) ?_
    rotate_left 1
    · skip
      go_simp
      try first | with_reducible rfl | apply And.intro <;> rfl
    simp only [xPa, xPb, xPc, xPd, xPe]
    refine run_at (i := 14) (v := ?_) rfl (by kernel_rfl) (by rfl) (fun _ _ _ h => h) hHeld (fun w1 hw1 => ?_) ?_
    rotate_left 1
    · skip
      go_simp
      try first | with_reducible rfl | apply And.intro <;> rfl
    simp only [xPa, xPb, xPc, xPd, xPe]
    refine run_at (i := 15) (v := ?_) rfl (by kernel_rfl) (by rfl) (fun _ _ _ h => h) hHeld (fun w1 hw1 => ?_) ?_
    rotate_left 1
    · skip
      go_simp
      try first | with_reducible rfl | apply And.intro <;> rfl
    simp only [xPa, xPb, xPc, xPd, xPe]
    refine run_at (i := 16) (v := ?_) rfl (by kernel_rfl) (by rfl) (fun _ _ _ h => h) hHeld (fun w1 hw1 => ?_) ?_
    rotate_left 1
    · skip
      have hcw0 := hw1.cell (HC1.out) (by simp)
      go_simp
      try first | with_reducible rfl | apply And.intro <;> rfl
    simp only [xPa, xPb, xPc, xPd, xPe]
    refine run_at (i := 17) (v := ?_) rfl (by kernel_rfl) (by rfl) (fun _ _ _ h => h) hHeld (fun w1 hw1 => ?_) ?_
    rotate_left 1
    · skip
      go_simp
      try first | with_reducible rfl | apply And.intro <;> rfl
    simp only [xPa, xPb, xPc, xPd, xPe]
    refine run_at (i := 18) (v := ?_) rfl (by kernel_rfl) (by rfl) (fun _ _ _ h => h) hHeld (fun w1 hw1 => ?_) ?_
    rotate_left 1
    · skip
      go_simp
      try first | with_reducible rfl | apply And.intro <;> rfl
    simp only [xPa, xPb, xPc, xPd, xPe]
    refine run_at (i := 19) (v := ?_) rfl (by kernel_rfl) (by rfl) (fun _ _ _ h => h) hHeld (fun w1 hw1 => ?_) ?_
    rotate_left 1
    · skip
      go_simp
      try first | with_reducible rfl | apply And.intro <;> rfl
    simp only [xPa, xPb, xPc, xPd, xPe]
    refine run_at (i := 20) (v := ?_) rfl (by kernel_rfl) (by rfl) (fun _ _ _ h => h) hHeld (fun w1 hw1 => ?_) ?_
    rotate_left 1
    · skip
      go_simp
      try first | with_reducible rfl | apply And.intro <;> rfl
    simp only [xPa, xPb, xPc, xPd, xPe]
    refine run_at (i := 21) (v := ?_) rfl (by kernel_rfl) (by rfl) (fun _ _ _ h => h) hHeld (fun w1 hw1 => ?_) ?_
    rotate_left 1
    · skip
      have hcw0 := hw1.cell (HD1.out) (by simp)
      go_simp
      try first | with_reducible rfl | apply And.intro <;> rfl
    simp only [xPa, xPb, xPc, xPd, xPe]
    refine call_at (i := 22) (f := ?_) (args := ?_) rfl (by kernel_rfl) (by rfl) ?_ ?_
    rotate_left 2
    · go_simp
      try first | with_reducible rfl | apply And.intro <;> rfl
    refine (denies_eq v.A u.A v.n v.d u.d v.l u.l wd (HOK.out.l.keep' (HF.out.and hHeld (by simp)) (by simp) (fun _ _ h => h)) (by rw [← HNN.out]; exact HOKU.out.l.keep' (HF.out.and hHeld (by simp)) (by simp) (fun _ _ h => h)) (by rw [HVI.out.2]) (by have := HOK.out.n; omega)).mono ?_
    rintro e_ w9 ⟨rfl, hf⟩
    refine ⟨_, rfl, hHeld.and hf (by simp), fun hHeld => ?_⟩
    clear hf
    simp only [xPa, xPb, xPc, xPd, xPe]
    refine run_at (i := 23) (v := ?_) rfl (by kernel_rfl) (by rfl) (fun _ _ _ h => h) hHeld (fun w1 hw1 => ?_) ?_
    rotate_left 1
    · skip
      go_simp
      try first | with_reducible rfl | apply And.intro <;> rfl
    simp only [xPa, xPb, xPc, xPd, xPe]
    refine run_at (i := 24) (v := ?_) rfl (by kernel_rfl) (by rfl) (fun _ _ _ h => h) hHeld (fun w1 hw1 => ?_) ?_
    rotate_left 1
    · skip
      go_simp
      try first | with_reducible rfl | apply And.intro <;> rfl
    simp only [xPa, xPb, xPc, xPd, xPe]
    refine wpAnyH_done (by kernel_rfl) ?_ _
    have HF9 : Hid (Fr [] w w9) := Lib.hid (HF.out.and hHeld (by simp))
    clear hHeld HCELLS HCL HC0 HC1 HCELLU HCLU HD0 HD1 HVU HVI HNN
    clear HOK HOKU
    go_wp2
    go_roundw
    case rel => exact ⟨j + 1, by have := HJN.out; omega, by go_num, HF9⟩
    case measure => have := HJN.out; simp [intOf]; omega
  · have hjn : n = j := by omega
    subst hjn
    clear hlt hj
    go_wp2
    go_ret
    exact ⟨rfl, HF.out⟩
set_option maxHeartbeats 2000000 in
theorem cert_eq (x y : Wce) (w : World) (hx : x.Li w []) (hy : y.Li w []) (he : x.con = y.con) (C D : List Value) (hC : x.cells = C) (hD : y.cells = D) :
  Calls Tryz.prog 44 #[.agg C.toArray, .agg D.toArray] w fun e w' => e = .returned (.bool true) ∧ Fr [] w w' := by
 obtain ⟨wa, hwa⟩ : ∃ wa, wa = (w.alloc (Obj.cells C.toArray 35)).alloc (Obj.cells D.toArray 35) := ⟨_, rfl⟩
 have hf0 : Fr [] w wa := by rw [hwa]; exact ((Fr.refl [] w).alloc _).alloc _
 have hb0 : Blk wa w.heap.size 35 x.cells.toArray := by rw [hwa, hC]; exact blk_alloc (Blk.new _ _ _)
 have hb1 : Blk wa (w.heap.size + 1) 35 y.cells.toArray := by
  have := Blk.new (w.alloc (Obj.cells C.toArray 35)) 35 D.toArray
  rw [hwa, hD]
  simpa using this
 obtain ⟨k, A, n, d, l⟩ := x
 obtain ⟨k', B, m, d', l'⟩ := y
 unfold Wce.con at he
 simp only [Prod.mk.injEq] at he
 obtain ⟨rfl, rfl⟩ := he
 have hnm : m = n := hy.l.1.symm.trans hx.l.1
 subst hnm
 have hr0 := hb0.range
 have hr1 := hb1.range
 have HKL : Hid (k.cells.length = 37) := Lib.hid (Wcm.len hx.k.h)
 have h01 : wa.cell? ⟨w.heap.size, 37, none⟩ = some (.slice A m d) := by have h := hr0 37 (.slice A m d) (by simp [Wce.cells, HKL.out]); simpa using h
 have h11 : wa.cell? ⟨w.heap.size + 1, 37, none⟩ = some (.slice B m d') := by have h := hr1 37 (.slice B m d') (by simp [Wce.cells, HKL.out]); simpa using h
 have HH0 : Hid (wa.rangeAt w.heap.size 0 k.cells) := Lib.hid (rangeAt_sub (o := 0) (xs := []) (ys := k.cells) (zs := [.slice A m d]) hr0)
 have HH1 : Hid (wa.rangeAt (w.heap.size + 1) 0 k.cells) := Lib.hid (rangeAt_sub (o := 0) (xs := []) (ys := k.cells) (zs := [.slice B m d']) hr1)
 have HEQ : Hid ((Op.equalIn 10000 29 (.agg k.cells.toArray) (.agg k.cells.toArray)).run Tryz.prog wa = .ok true wa) := Lib.hid (eq_Wcm k hx.k.h wa)
 have HF0 := Lib.hid hf0
 have HWA := Lib.hid hwa
 have HX := Lib.hid hx
 have HY := Lib.hid hy
 clear hwa hf0 hb0 hb1 hr0 hr1 hx hy hC hD
 generalize hKC : k.cells = KC at *
 clear hKC
 go_enter Tryz.func44, Tryz.ntmps44
 go_upto_region 1 with (fail)
 change Code.wp _ _ _ _ ((w.alloc (Obj.cells C.toArray 35)).alloc (Obj.cells D.toArray 35))
 rw [← HWA.out]
 go_wp2_with (first
  | (refine wpList_midg rfl 29 _ rfl w.heap.size 0 rfl KC HH0.out (row_cmt.of HKL.out) ?_)
  | (refine wpList_midg rfl 29 _ rfl (w.heap.size + 1) 0 rfl KC HH1.out (row_cmt.of HKL.out) ?_)
  | (refine wpList_eqlg rfl 29 _ _ _ rfl KC.toArray KC.toArray rfl rfl true (by kernel_rfl) HEQ.out ?_))
 refine (stamps_eq A B m d d' l l wa (HX.out.l.keep' HF0.out (by simp) (fun _ _ h => h)) (HY.out.l.keep' HF0.out (by simp) (fun _ _ h => h)) rfl (by have h1 : m ≤ 100 := HX.out.n; omega)).mono ?_
 rintro e w1 ⟨rfl, hf1⟩
 have HF1 : Hid (Fr [] w w1) := Lib.hid (HF0.out.and hf1 (by simp))
 clear hf1 h01 h11
 go_wp2
 go_ret
 exact ⟨rfl, HF1.out⟩
set_option maxHeartbeats 4000000 in
theorem certs_eq (A B : Option Addr) (n d d' : Nat) (l m : List Wce) (w : World) (hl : Lst 38 Wce.cells (fun w v => v.Li w []) w A n l) (hm : Lst 38 Wce.cells (fun w v => v.Li w []) w B n m) (hlm : l.map Wce.con = m.map Wce.con) (hn : n ≤ 1000) :
  Calls Tryz.prog 94 #[.slice A n d, .slice B n d'] w fun e w' => e = .returned (.bool true) ∧ Fr [] w w' := by
 have HL := Lib.hid hl
 have HM := Lib.hid hm
 have HLM := Lib.hid hlm
 have HN := Lib.hid hn
 have hn1 : (n : Int) ≤ 9223372036854775807 := by omega
 have hnn : ((n : Int) != (n : Int)) = false := by simp
 clear hl hm hn hlm
 go_enter Tryz.func94, Tryz.ntmps94
 go_wp2_with fail
 clear hnn
 go_loopw [13] (fun i wr => ∃ j : Nat, j ≤ n ∧ i = .int .i64 j ∧ Hid (Fr [] w wr)) (fun i _ => n - (intOf i).toNat)
 case atStart => exact ⟨0, by omega, rfl, Lib.hid (Fr.refl _ _)⟩
 case round =>
  obtain ⟨j, hj, rfl, HF⟩ := hrel
  by_cases hlt : j < n
  · obtain ⟨ad, v, hA, hv, hcl, hok, hcells⟩ := HL.out.at (i := j) hlt
    obtain ⟨bd, u, hB, hu, hclu, hoku, hcellu⟩ := HM.out.at (i := j) hlt
    subst hA
    subst hB
    have HVU := Lib.hid (map_at HLM.out hv hu)
    have HCELLS : Hid (∀ i c, (Wce.cells v)[i]? = some c → wr.cell? ((ad.add (j * 38)).add i) = some c) := Lib.hid (fun i c hc => HF.out.cell (hcells i c hc) (by simp))
    have HCELLU : Hid (∀ i c, (Wce.cells u)[i]? = some c → wr.cell? ((bd.add (j * 38)).add i) = some c) := Lib.hid (fun i c hc => HF.out.cell (hcellu i c hc) (by simp))
    have HCL := Lib.hid hcl
    have HCLU := Lib.hid hclu
    have HOK := Lib.hid hok
    have HOKU := Lib.hid hoku
    have HJN := Lib.hid hlt
    have hj0 : (0 : Int) ≤ j := by omega
    clear hcells hcl hok hv hcellu hclu hoku hu
    go_upto_region 6 with (fail)
    refine wp_region_held_drew (S := Fr [] wr) (by kernel_rfl) (Fr.drew (Fr.refl _ wr)) (fun hHeld => ?_)
    generalize wr.drew = wd at *
    refine run_at (i := 0) (v := ?_) rfl (by kernel_rfl) (by rfl) (fun _ _ _ h => h) hHeld (fun w1 hw1 => ?_) ?_
    rotate_left 1
    · skip
      go_simp
      try first | with_reducible rfl | apply And.intro <;> rfl
    simp only [xPa, xPb, xPc, xPd, xPe]
    refine run_at (i := 1) (v := ?_) rfl (by kernel_rfl) (by rfl) (fun _ _ _ h => h) hHeld (fun w1 hw1 => ?_) ?_
    rotate_left 1
    · skip
      go_simp
      try first | with_reducible rfl | apply And.intro <;> rfl
    simp only [xPa, xPb, xPc, xPd, xPe]
    refine run_at (i := 2) (v := ?_) rfl (by kernel_rfl) (by rfl) (fun _ _ _ h => h) hHeld (fun w1 hw1 => ?_) ?_
    rotate_left 1
    · skip
      go_simp
      try first | with_reducible rfl | apply And.intro <;> rfl
    simp only [xPa, xPb, xPc, xPd, xPe]
    refine crow_at (i := 3) rfl (by kernel_rfl) (by rfl) _ _ rfl _ rfl _ (fun w1 hw1 j v hv => hw1.cell ((HCELLS.out) j v hv) (by simp)) (row_crt.of HCL.out) (fun _ _ _ h => h) hHeld ?_
    simp only [xPa, xPb, xPc, xPd, xPe]
    refine run_at (i := 4) (v := ?_) rfl (by kernel_rfl) (by rfl) (fun _ _ _ h => h) hHeld (fun w1 hw1 => ?_) ?_
    rotate_left 1
    · skip
      go_simp
      try first | with_reducible rfl | apply And.intro <;> rfl
    simp only [xPa, xPb, xPc, xPd, xPe]
    refine run_at (i := 5) (v := ?_) rfl (by kernel_rfl) (by rfl) (fun _ _ _ h => h) hHeld (fun w1 hw1 => ?_) ?_
    rotate_left 1
    · skip
      go_simp
      try first | with_reducible rfl | apply And.intro <;> rfl
    simp only [xPa, xPb, xPc, xPd, xPe]
    refine run_at (i := 6) (v := ?_) rfl (by kernel_rfl) (by rfl) (fun _ _ _ h => h) hHeld (fun w1 hw1 => ?_) ?_
    rotate_left 1
    · skip
      go_simp
      try first | with_reducible rfl | apply And.intro <;> rfl
    simp only [xPa, xPb, xPc, xPd, xPe]
    refine crow_at (i := 7) rfl (by kernel_rfl) (by rfl) _ _ rfl _ rfl _ (fun w1 hw1 j v hv => hw1.cell ((HCELLU.out) j v hv) (by simp)) (row_crt.of HCLU.out) (fun _ _ _ h => h) hHeld ?_
    simp only [xPa, xPb, xPc, xPd, xPe]
    refine call_at (i := 8) (f := ?_) (args := ?_) rfl (by kernel_rfl) (by rfl) ?_ ?_
    rotate_left 2
    · go_simp
      try first | with_reducible rfl | apply And.intro <;> rfl
    refine (cert_eq v u wd (Wce.Li.keep HOK.out (HF.out.and hHeld (by simp)) (by simp)) (Wce.Li.keep HOKU.out (HF.out.and hHeld (by simp)) (by simp)) HVU.out _ _ rfl rfl).mono ?_
    rintro e_ w9 ⟨rfl, hf⟩
    refine ⟨_, rfl, hHeld.and hf (by simp), fun hHeld => ?_⟩
    clear hf
    simp only [xPa, xPb, xPc, xPd, xPe]
    refine run_at (i := 9) (v := ?_) rfl (by kernel_rfl) (by rfl) (fun _ _ _ h => h) hHeld (fun w1 hw1 => ?_) ?_
    rotate_left 1
    · skip
      go_simp
      try first | with_reducible rfl | apply And.intro <;> rfl
    simp only [xPa, xPb, xPc, xPd, xPe]
    refine wpAnyH_done (by kernel_rfl) ?_ _
    have HF9 : Hid (Fr [] w w9) := Lib.hid (HF.out.and hHeld (by simp))
    clear hHeld HCELLS HCL HCELLU HCLU HVU
    clear HOK HOKU
    go_wp2
    go_roundw
    case rel => exact ⟨j + 1, by have := HJN.out; omega, by go_num, HF9⟩
    case measure => have := HJN.out; simp [intOf]; omega
  · have hjn : n = j := by omega
    subst hjn
    clear hlt hj
    go_wp2
    go_ret
    exact ⟨rfl, HF.out⟩
set_option maxHeartbeats 2000000 in
theorem promise_eq (x y : Wpr) (w : World) (hx : x.Li w []) (hy : y.Li w []) (he : x.con = y.con) (C D : List Value) (hC : x.cells = C) (hD : y.cells = D) :
  Calls Tryz.prog 45 #[.agg C.toArray, .agg D.toArray] w fun e w' => e = .returned (.bool true) ∧ Fr [] w w' := by
 obtain ⟨wa, hwa⟩ : ∃ wa, wa = (w.alloc (Obj.cells C.toArray 40)).alloc (Obj.cells D.toArray 40) := ⟨_, rfl⟩
 have hf0 : Fr [] w wa := by rw [hwa]; exact ((Fr.refl [] w).alloc _).alloc _
 have hb0 : Blk wa w.heap.size 40 x.cells.toArray := by rw [hwa, hC]; exact blk_alloc (Blk.new _ _ _)
 have hb1 : Blk wa (w.heap.size + 1) 40 y.cells.toArray := by
  have := Blk.new (w.alloc (Obj.cells C.toArray 40)) 40 D.toArray
  rw [hwa, hD]
  simpa using this
 obtain ⟨r, e, t, A, n, d, l, b, mm⟩ := x
 obtain ⟨r', e', t', B, m, d', l', b', mm'⟩ := y
 unfold Wpr.con at he
 simp only [Cpr.mk.injEq] at he
 obtain ⟨rfl, rfl, rfl, hll, rfl, rfl⟩ := he
 have hnm : m = n := hy.l.1.symm.trans ((by have := congrArg List.length hll; simpa using this.symm : l'.length = l.length).trans hx.l.1)
 subst hnm
 have hr0 := hb0.range
 have hr1 := hb1.range
 have h00 : wa.cell? ⟨w.heap.size, 0, none⟩ = some (.int .i64 r) := by have h := hr0 0 _ rfl; simpa using h
 have h10 : wa.cell? ⟨w.heap.size + 1, 0, none⟩ = some (.int .i64 r) := by have h := hr1 0 _ rfl; simpa using h
 have h01 : wa.cell? ⟨w.heap.size, 1, none⟩ = some (.int .i64 e) := by have h := hr0 1 _ rfl; simpa using h
 have h11 : wa.cell? ⟨w.heap.size + 1, 1, none⟩ = some (.int .i64 e) := by have h := hr1 1 _ rfl; simpa using h
 have h02 : wa.cell? ⟨w.heap.size, 2, none⟩ = some (.int .u64 (t : Int)) := by have h := hr0 2 _ rfl; simpa using h
 have h12 : wa.cell? ⟨w.heap.size + 1, 2, none⟩ = some (.int .u64 (t : Int)) := by have h := hr1 2 _ rfl; simpa using h
 have h03 : wa.cell? ⟨w.heap.size, 3, none⟩ = some (.slice A m d) := by have h := hr0 3 _ rfl; simpa using h
 have h13 : wa.cell? ⟨w.heap.size + 1, 3, none⟩ = some (.slice B m d') := by have h := hr1 3 _ rfl; simpa using h
 have HH0 : Hid (wa.rangeAt w.heap.size 4 [.int .i64 b, .int .i64 mm]) := Lib.hid (rangeAt_sub (o := 0) (xs := [.int .i64 r, .int .i64 e, .int .u64 (t : Int), .slice A m d]) (ys := [.int .i64 b, .int .i64 mm]) (zs := []) hr0)
 have HH1 : Hid (wa.rangeAt (w.heap.size + 1) 4 [.int .i64 b, .int .i64 mm]) := Lib.hid (rangeAt_sub (o := 0) (xs := [.int .i64 r, .int .i64 e, .int .u64 (t : Int), .slice B m d']) (ys := [.int .i64 b, .int .i64 mm]) (zs := []) hr1)
 have HEQ : Hid ((Op.equalIn 10000 27 (.agg #[.int .i64 b, .int .i64 mm]) (.agg #[.int .i64 b, .int .i64 mm])).run Tryz.prog wa = .ok true wa) := Lib.hid (sig_selfd b mm 9998 wa)
 have HF0 := Lib.hid hf0
 have HWA := Lib.hid hwa
 have HX := Lib.hid hx
 have HY := Lib.hid hy
 have HLL := Lib.hid hll
 have hrr : (r == r) = true := by simp
 have hee : (e == e) = true := by simp
 have htt : (((t : Nat) : Int) == (t : Int)) = true := by simp
 clear hwa hf0 hb0 hb1 hr0 hr1 hx hy hC hD hll
 go_enter Tryz.func45, Tryz.ntmps45
 go_upto_region 1 with (fail)
 change Code.wp _ _ _ _ ((w.alloc (Obj.cells C.toArray 40)).alloc (Obj.cells D.toArray 40))
 rw [← HWA.out]
 go_wp2_with (first
  | (refine wpList_midg rfl 27 _ rfl w.heap.size 4 rfl [.int .i64 b, .int .i64 mm] HH0.out row_sg2 ?_)
  | (refine wpList_midg rfl 27 _ rfl (w.heap.size + 1) 4 rfl [.int .i64 b, .int .i64 mm] HH1.out row_sg2 ?_)
  | (refine wpList_eqlg rfl 27 _ _ _ rfl #[.int .i64 b, .int .i64 mm] #[.int .i64 b, .int .i64 mm] rfl rfl true (by kernel_rfl) HEQ.out ?_))
 refine (certs_eq A B m d d' l l' wa (HX.out.l.keep' HF0.out (by simp) (fun _ _ h => Wce.Li.keep (S' := []) h HF0.out (by simp))) (HY.out.l.keep' HF0.out (by simp) (fun _ _ h => Wce.Li.keep (S' := []) h HF0.out (by simp))) HLL.out (by have h1 : m ≤ 100 := HX.out.n; omega)).mono ?_
 rintro e_ w1 ⟨rfl, hf1⟩
 have HF1 : Hid (Fr [] w w1) := Lib.hid (HF0.out.and hf1 (by simp))
 clear hf1 h00 h10 h01 h11 h02 h12 h03 h13 hrr hee htt
 go_wp2
 go_ret
 exact ⟨rfl, HF1.out⟩
set_option maxHeartbeats 2000000 in
theorem batch_eq (x y : Wba) (w : World) (hx : x.Li w []) (hy : y.Li w []) (he : x.con = y.con) (C D : List Value) (hC : x.cells = C) (hD : y.cells = D) :
  Calls Tryz.prog 48 #[.agg C.toArray, .agg D.toArray] w fun e w' => e = .returned (.bool true) ∧ Fr [] w w' := by
 obtain ⟨wa, hwa⟩ : ∃ wa, wa = (w.alloc (Obj.cells C.toArray 45)).alloc (Obj.cells D.toArray 45) := ⟨_, rfl⟩
 have hf0 : Fr [] w wa := by rw [hwa]; exact ((Fr.refl [] w).alloc _).alloc _
 have hb0 : Blk wa w.heap.size 45 x.cells.toArray := by rw [hwa, hC]; exact blk_alloc (Blk.new _ _ _)
 have hb1 : Blk wa (w.heap.size + 1) 45 y.cells.toArray := by
  have := Blk.new (w.alloc (Obj.cells C.toArray 45)) 45 D.toArray
  rw [hwa, hD]
  simpa using this
 obtain ⟨e, t, A, n, d, l, A2, n2, d2, l2, A3, n3, d3, l3⟩ := x
 obtain ⟨e', t', B, m, d', l', B2, m2, d2', l2', B3, m3, d3', l3'⟩ := y
 unfold Wba.con at he
 simp only [Cba.mk.injEq] at he
 obtain ⟨rfl, rfl, hl1, hl2, hl3⟩ := he
 have hnm : m = n := hy.l.1.symm.trans ((by have := congrArg List.length hl1; simpa using this.symm : l'.length = l.length).trans hx.l.1)
 have hnm2 : m2 = n2 := hy.l2.1.symm.trans ((by have := congrArg List.length hl2; simpa using this.symm : l2'.length = l2.length).trans hx.l2.1)
 have hnm3 : m3 = n3 := hy.l3.1.symm.trans ((by have := congrArg List.length hl3; simpa using this.symm : l3'.length = l3.length).trans hx.l3.1)
 subst hnm
 subst hnm2
 subst hnm3
 have hr0 := hb0.range
 have hr1 := hb1.range
 have h00 : wa.cell? ⟨w.heap.size, 0, none⟩ = some (.int .i64 e) := by have h := hr0 0 _ rfl; simpa using h
 have h10 : wa.cell? ⟨w.heap.size + 1, 0, none⟩ = some (.int .i64 e) := by have h := hr1 0 _ rfl; simpa using h
 have h01 : wa.cell? ⟨w.heap.size, 1, none⟩ = some (.int .u64 (t : Int)) := by have h := hr0 1 _ rfl; simpa using h
 have h11 : wa.cell? ⟨w.heap.size + 1, 1, none⟩ = some (.int .u64 (t : Int)) := by have h := hr1 1 _ rfl; simpa using h
 have h02 : wa.cell? ⟨w.heap.size, 2, none⟩ = some (.slice A m d) := by have h := hr0 2 _ rfl; simpa using h
 have h12 : wa.cell? ⟨w.heap.size + 1, 2, none⟩ = some (.slice B m d') := by have h := hr1 2 _ rfl; simpa using h
 have h03 : wa.cell? ⟨w.heap.size, 3, none⟩ = some (.slice A2 m2 d2) := by have h := hr0 3 _ rfl; simpa using h
 have h13 : wa.cell? ⟨w.heap.size + 1, 3, none⟩ = some (.slice B2 m2 d2') := by have h := hr1 3 _ rfl; simpa using h
 have h04 : wa.cell? ⟨w.heap.size, 4, none⟩ = some (.slice A3 m3 d3) := by have h := hr0 4 _ rfl; simpa using h
 have h14 : wa.cell? ⟨w.heap.size + 1, 4, none⟩ = some (.slice B3 m3 d3') := by have h := hr1 4 _ rfl; simpa using h
 have HF0 := Lib.hid hf0
 have HWA := Lib.hid hwa
 have HX := Lib.hid hx
 have HY := Lib.hid hy
 have HL1 := Lib.hid hl1
 have HL2 := Lib.hid hl2
 have HL3 := Lib.hid hl3
 have HN : Hid (m ≤ 100) := Lib.hid hx.n
 have hee : (e != e) = false := by simp
 have htt : (((t : Nat) : Int) != (t : Int)) = false := by simp
 have hnn : (((m : Nat) : Int) != (m : Int)) = false := by simp
 clear hwa hf0 hb0 hb1 hr0 hr1 hx hy hC hD hl1 hl2 hl3
 go_enter Tryz.func48, Tryz.ntmps48
 go_upto_region 1 with (fail)
 change Code.wp _ _ _ _ ((w.alloc (Obj.cells C.toArray 45)).alloc (Obj.cells D.toArray 45))
 rw [← HWA.out]
 go_wp2_with fail
 refine (openings_eq A2 B2 m2 d2 d2' l2 l2' wa (HX.out.l2.keep' HF0.out (by simp) (fun _ _ h => Wop.Ok.keep (S' := []) h HF0.out (by simp))) (HY.out.l2.keep' HF0.out (by simp) (fun _ _ h => Wop.Ok.keep (S' := []) h HF0.out (by simp))) HL2.out (by have h1 : m2 ≤ 100 := HX.out.n2; omega)).mono ?_
 rintro e_ w1 ⟨rfl, hf1⟩
 have k04 := hf1.cell h04 (by simp)
 have k14 := hf1.cell h14 (by simp)
 have k02 := hf1.cell h02 (by simp)
 have k12 := hf1.cell h12 (by simp)
 have HF1 : Hid (Fr [] w w1) := Lib.hid (HF0.out.and hf1 (by simp))
 clear hf1 h00 h10 h01 h11 h02 h12 h03 h13 h04 h14 hee htt hnn
 go_wp2_with fail
 refine (tombs_eq A3 B3 m3 d3 d3' l3 l3' w1 (HX.out.l3.keep' HF1.out (by simp) (fun _ _ h => Wtb.Li.keep (S' := []) h HF1.out (by simp))) (HY.out.l3.keep' HF1.out (by simp) (fun _ _ h => Wtb.Li.keep (S' := []) h HF1.out (by simp))) HL3.out (by have h1 : m3 ≤ 100 := HX.out.n3; omega)).mono ?_
 rintro e_ w2 ⟨rfl, hf2⟩
 have m02 := hf2.cell k02 (by simp)
 have HC02 := Lib.hid m02
 have HC12 := Lib.hid (hf2.cell k12 (by simp))
 have HF2 : Hid (Fr [] w w2) := Lib.hid (HF1.out.and hf2 (by simp))
 clear hf2 k04 k14 k02 k12
 have hn1 : (m : Int) ≤ 9223372036854775807 := by have := HN.out; omega
 go_wp2_with fail
 clear m02
 go_loopw [46] (fun i wr => ∃ j : Nat, j ≤ m ∧ i = .int .i64 j ∧ Hid (Fr [] w2 wr)) (fun i _ => m - (intOf i).toNat)
 case atStart => exact ⟨0, by omega, rfl, Lib.hid (Fr.refl _ _)⟩
 case round =>
  obtain ⟨j, hj, rfl, HF⟩ := hrel
  by_cases hlt : j < m
  · obtain ⟨ad, v, hA, hv, hcl, hok, hcells⟩ := HX.out.l.at (i := j) hlt
    obtain ⟨bd, u, hB, hu, hclu, hoku, hcellu⟩ := HY.out.l.at (i := j) hlt
    have hA : A = some ad := hA
    have hB : B = some bd := hB
    subst hA
    subst hB
    have HVU := Lib.hid (map_at HL1.out hv hu)
    have HFW : Hid (Fr [] w wr) := Lib.hid (HF2.out.and HF.out (by simp))
    have HCELLS : Hid (∀ i c, (Wpr.cells v)[i]? = some c → wr.cell? ((ad.add (j * 6)).add i) = some c) := Lib.hid (fun i c hc => HFW.out.cell (hcells i c hc) (by simp))
    have HCELLU : Hid (∀ i c, (Wpr.cells u)[i]? = some c → wr.cell? ((bd.add (j * 6)).add i) = some c) := Lib.hid (fun i c hc => HFW.out.cell (hcellu i c hc) (by simp))
    have HCR0 := Lib.hid (HF.out.cell HC02.out (by simp))
    have HCR1 := Lib.hid (HF.out.cell HC12.out (by simp))
    have HOK := Lib.hid hok
    have HOKU := Lib.hid hoku
    have HJN := Lib.hid hlt
    have hj0 : (0 : Int) ≤ j := by omega
    clear hcells hcl hok hv hcellu hclu hoku hu
    go_upto_region 6 with (fail)
    refine wp_region_held_drew (S := Fr [] wr) (by kernel_rfl) (Fr.drew (Fr.refl _ wr)) (fun hHeld => ?_)
    generalize wr.drew = wd at *
    refine run_at (i := 0) (v := ?_) rfl (by kernel_rfl) (by rfl) (fun _ _ _ h => h) hHeld (fun w1 hw1 => ?_) ?_
    rotate_left 1
    · skip
      go_simp
      try first | with_reducible rfl | apply And.intro <;> rfl
    simp only [xPa, xPb, xPc, xPd, xPe]
    refine run_at (i := 1) (v := ?_) rfl (by kernel_rfl) (by rfl) (fun _ _ _ h => h) hHeld (fun w1 hw1 => ?_) ?_
    rotate_left 1
    · skip
      have hcw0 := hw1.cell (HCR0.out) (by simp)
      go_simp
      try first | with_reducible rfl | apply And.intro <;> rfl
    simp only [xPa, xPb, xPc, xPd, xPe]
    refine run_at (i := 2) (v := ?_) rfl (by kernel_rfl) (by rfl) (fun _ _ _ h => h) hHeld (fun w1 hw1 => ?_) ?_
    rotate_left 1
    · skip
      go_simp
      try first | with_reducible rfl | apply And.intro <;> rfl
    simp only [xPa, xPb, xPc, xPd, xPe]
    refine run_at (i := 3) (v := ?_) rfl (by kernel_rfl) (by rfl) (fun _ _ _ h => h) hHeld (fun w1 hw1 => ?_) ?_
    rotate_left 1
    · skip
      go_simp
      try first | with_reducible rfl | apply And.intro <;> rfl
    simp only [xPa, xPb, xPc, xPd, xPe]
    refine crow_at (i := 4) rfl (by kernel_rfl) (by rfl) _ _ rfl _ rfl _ (fun w1 hw1 j v hv => hw1.cell ((HCELLS.out) j v hv) (by simp)) (row_prm) (fun _ _ _ h => h) hHeld ?_
    simp only [xPa, xPb, xPc, xPd, xPe]
    refine run_at (i := 5) (v := ?_) rfl (by kernel_rfl) (by rfl) (fun _ _ _ h => h) hHeld (fun w1 hw1 => ?_) ?_
    rotate_left 1
    · skip
      go_simp
      try first | with_reducible rfl | apply And.intro <;> rfl
    simp only [xPa, xPb, xPc, xPd, xPe]
    refine run_at (i := 6) (v := ?_) rfl (by kernel_rfl) (by rfl) (fun _ _ _ h => h) hHeld (fun w1 hw1 => ?_) ?_
    rotate_left 1
    · skip
      have hcw0 := hw1.cell (HCR1.out) (by simp)
      go_simp
      try first | with_reducible rfl | apply And.intro <;> rfl
    simp only [xPa, xPb, xPc, xPd, xPe]
    refine run_at (i := 7) (v := ?_) rfl (by kernel_rfl) (by rfl) (fun _ _ _ h => h) hHeld (fun w1 hw1 => ?_) ?_
    rotate_left 1
    · skip
      go_simp
      try first | with_reducible rfl | apply And.intro <;> rfl
    simp only [xPa, xPb, xPc, xPd, xPe]
    refine run_at (i := 8) (v := ?_) rfl (by kernel_rfl) (by rfl) (fun _ _ _ h => h) hHeld (fun w1 hw1 => ?_) ?_
    rotate_left 1
    · skip
      go_simp
      try first | with_reducible rfl | apply And.intro <;> rfl
    simp only [xPa, xPb, xPc, xPd, xPe]
    refine crow_at (i := 9) rfl (by kernel_rfl) (by rfl) _ _ rfl _ rfl _ (fun w1 hw1 j v hv => hw1.cell ((HCELLU.out) j v hv) (by simp)) (row_prm) (fun _ _ _ h => h) hHeld ?_
    simp only [xPa, xPb, xPc, xPd, xPe]
    refine call_at (i := 10) (f := ?_) (args := ?_) rfl (by kernel_rfl) (by rfl) ?_ ?_
    rotate_left 2
    · go_simp
      try first | with_reducible rfl | apply And.intro <;> rfl
    refine (promise_eq v u wd (Wpr.Li.keep HOK.out (HFW.out.and hHeld (by simp)) (by simp)) (Wpr.Li.keep HOKU.out (HFW.out.and hHeld (by simp)) (by simp)) HVU.out _ _ rfl rfl).mono ?_
    rintro e_ w9 ⟨rfl, hf⟩
    refine ⟨_, rfl, hHeld.and hf (by simp), fun hHeld => ?_⟩
    clear hf
    simp only [xPa, xPb, xPc, xPd, xPe]
    refine run_at (i := 11) (v := ?_) rfl (by kernel_rfl) (by rfl) (fun _ _ _ h => h) hHeld (fun w1 hw1 => ?_) ?_
    rotate_left 1
    · skip
      go_simp
      try first | with_reducible rfl | apply And.intro <;> rfl
    simp only [xPa, xPb, xPc, xPd, xPe]
    refine wpAnyH_done (by kernel_rfl) ?_ _
    have HF9 : Hid (Fr [] w2 w9) := Lib.hid (HF.out.and hHeld (by simp))
    clear hHeld HCELLS HCELLU HVU HOK HOKU HCR0 HCR1 HFW
    go_wp2
    go_roundw
    case rel => exact ⟨j + 1, by have := HJN.out; omega, by go_num, HF9⟩
    case measure => have := HJN.out; simp [intOf]; omega
  · have hjn : m = j := by omega
    subst hjn
    clear hlt hj
    go_wp2
    go_ret
    exact ⟨rfl, HF2.out.and HF.out (by simp)⟩
end Go.Proofs.YtpcnedpheplofaaGreat

namespace Go.Proofs.YtpcnedpheplofaaGreat
open Go.RowKit
set_option maxRecDepth 100000
set_option maxHeartbeats 1000000 in
theorem eql_Wak (x y : Wst) (hx : x.h.length = 32) (hy : y.h.length = 32) (w : World) : (Op.equalIn 10000 37 (.agg x.cells.toArray) (.agg y.cells.toArray)).run Tryz.prog w = .ok (x.eqB y) w :=
 eql_of (d := 9999) (C := x.cells.toArray) (D := y.cells.toArray) (l := [(3, 0), (23, 1), (25, 3), (30, 35), (27, 36)]) (run_equalIn_struct w 9999 37 x.cells.toArray y.cells.toArray (by kernel_rfl) (by kernel_rfl)) (by kernel_rfl)
  (bs := [decide (x.r = y.r), (decide (x.c = y.c) && decide (x.s = y.s)), decide (x.h = y.h), decide ((x.t : Int) = (y.t : Int)), (decide (x.b = y.b) && decide (x.m = y.m))])
  ⟨⟨_, _, part_int 0 _ _ (show x.cells.toArray[0]? = some (.int .i64 x.r) from rfl) w, part_int 0 _ _ (show y.cells.toArray[0]? = some (.int .i64 y.r) from rfl) w, eql_int _ _ 9998 w⟩,
   ⟨_, _, (part_rowx 23 2 1 [.int .i64 x.r] [.int .i64 x.c, .int .i64 x.s] ([] ++ (x.h.map by8 ++ [.int .u64 (x.t : Int), .int .i64 x.b, .int .i64 x.m])) row_name rfl rfl w), (part_rowx 23 2 1 [.int .i64 y.r] [.int .i64 y.c, .int .i64 y.s] ([] ++ (y.h.map by8 ++ [.int .u64 (y.t : Int), .int .i64 y.b, .int .i64 y.m])) row_name rfl rfl w), eql_name _ _ _ _ 9997 w⟩,
   ⟨_, _, (part_rowx 25 32 3 [.int .i64 x.r, .int .i64 x.c, .int .i64 x.s] (x.h.map by8) [.int .u64 (x.t : Int), .int .i64 x.b, .int .i64 x.m] row_hash rfl (by rw [List.length_map]; exact hx) w), (part_rowx 25 32 3 [.int .i64 y.r, .int .i64 y.c, .int .i64 y.s] (y.h.map by8) [.int .u64 (y.t : Int), .int .i64 y.b, .int .i64 y.m] row_hash rfl (by rw [List.length_map]; exact hy) w), eql_hash x.h y.h hx hy 9997 w⟩,
   ⟨_, _, part_u64 35 _ _ (show x.cells.toArray[35]? = some (.int .u64 (x.t : Int)) by rw [List.getElem?_toArray]; exact post_cell [.int .i64 x.r, .int .i64 x.c, .int .i64 x.s] (x.h.map by8) [.int .u64 (x.t : Int), .int .i64 x.b, .int .i64 x.m] (by rw [List.length_map]; exact hx) 0 rfl) w, part_u64 35 _ _ (show y.cells.toArray[35]? = some (.int .u64 (y.t : Int)) by rw [List.getElem?_toArray]; exact post_cell [.int .i64 y.r, .int .i64 y.c, .int .i64 y.s] (y.h.map by8) [.int .u64 (y.t : Int), .int .i64 y.b, .int .i64 y.m] (by rw [List.length_map]; exact hy) 0 rfl) w, eql_u64 _ _ 9998 w⟩,
   ⟨_, _, (show (part 27 x.cells.toArray 36).run Tryz.prog w = .ok (.agg [.int .i64 x.b, .int .i64 x.m].toArray) w by rw [show x.cells = ([.int .i64 x.r, .int .i64 x.c, .int .i64 x.s] ++ (x.h.map by8 ++ [.int .u64 (x.t : Int)])) ++ ([.int .i64 x.b, .int .i64 x.m] ++ []) by simp [Wst.cells]]; exact part_rowx 27 2 36 _ _ _ row_sig (by simp [hx]) rfl w), (show (part 27 y.cells.toArray 36).run Tryz.prog w = .ok (.agg [.int .i64 y.b, .int .i64 y.m].toArray) w by rw [show y.cells = ([.int .i64 y.r, .int .i64 y.c, .int .i64 y.s] ++ (y.h.map by8 ++ [.int .u64 (y.t : Int)])) ++ ([.int .i64 y.b, .int .i64 y.m] ++ []) by simp [Wst.cells]]; exact part_rowx 27 2 36 _ _ _ row_sig (by simp [hy]) rfl w), eql_sig _ _ _ _ 9997 w⟩, trivial⟩
def Wen.eqB (x y : Wen) : Bool := [(decide (x.c = y.c) && decide (x.s = y.s)), decide (x.h = y.h), decide ((x.t : Int) = (y.t : Int))].all id
theorem Wen.eqB_iff (x y : Wen) : x.eqB y = true ↔ x = y := by
 obtain ⟨_, _, _, _⟩ := x
 obtain ⟨_, _, _, _⟩ := y
 simp [Wen.eqB, Wen.mk.injEq, and_assoc]
 (try omega)
set_option maxHeartbeats 1000000 in
theorem eql_Wen (x y : Wen) (hx : x.h.length = 32) (hy : y.h.length = 32) (w : World) : (Op.equalIn 10000 51 (.agg x.cells.toArray) (.agg y.cells.toArray)).run Tryz.prog w = .ok (x.eqB y) w :=
 eql_of (d := 9999) (C := x.cells.toArray) (D := y.cells.toArray) (l := [(23, 0), (25, 2), (30, 34)]) (run_equalIn_struct w 9999 51 x.cells.toArray y.cells.toArray (by kernel_rfl) (by kernel_rfl)) (by kernel_rfl)
  (bs := [(decide (x.c = y.c) && decide (x.s = y.s)), decide (x.h = y.h), decide ((x.t : Int) = (y.t : Int))])
  ⟨⟨_, _, (part_rowx 23 2 0 [] [.int .i64 x.c, .int .i64 x.s] ([] ++ (x.h.map by8 ++ [.int .u64 (x.t : Int)])) row_name rfl rfl w), (part_rowx 23 2 0 [] [.int .i64 y.c, .int .i64 y.s] ([] ++ (y.h.map by8 ++ [.int .u64 (y.t : Int)])) row_name rfl rfl w), eql_name _ _ _ _ 9997 w⟩,
   ⟨_, _, (part_rowx 25 32 2 [.int .i64 x.c, .int .i64 x.s] (x.h.map by8) [.int .u64 (x.t : Int)] row_hash rfl (by rw [List.length_map]; exact hx) w), (part_rowx 25 32 2 [.int .i64 y.c, .int .i64 y.s] (y.h.map by8) [.int .u64 (y.t : Int)] row_hash rfl (by rw [List.length_map]; exact hy) w), eql_hash x.h y.h hx hy 9997 w⟩,
   ⟨_, _, part_u64 34 _ _ (show x.cells.toArray[34]? = some (.int .u64 (x.t : Int)) by rw [List.getElem?_toArray]; exact post_cell [.int .i64 x.c, .int .i64 x.s] (x.h.map by8) [.int .u64 (x.t : Int)] (by rw [List.length_map]; exact hx) 0 rfl) w, part_u64 34 _ _ (show y.cells.toArray[34]? = some (.int .u64 (y.t : Int)) by rw [List.getElem?_toArray]; exact post_cell [.int .i64 y.c, .int .i64 y.s] (y.h.map by8) [.int .u64 (y.t : Int)] (by rw [List.length_map]; exact hy) 0 rfl) w, eql_u64 _ _ 9998 w⟩, trivial⟩
end Go.Proofs.YtpcnedpheplofaaGreat

namespace Go.Proofs.YtpcnedpheplofaaGreat
open Go.RowKit
set_option maxRecDepth 100000
def fallsF (n : Nat) (ops : List Oper) : List Oper → List Nat → Option (List Nat)
 | [], F => some F
 | o :: r, F =>
   match o.guard with
   | some (k, true) => match (nthOp ops k).bind (·.dst) with
     | some s => match F.contains s, o.dst with
       | true, some d => match F.contains d with
         | true => none
         | false => fallsF n ops r F
       | true, none => fallsF n ops r F
       | false, _ => none
     | none => none
   | some (_, false) => none
   | none => match o.dst with
     | none => none
     | some d => match Nat.blt d n with
       | false => none
       | true => match o.op with
         | .move (.tmp c) => match F.contains c with
           | true => fallsF n ops r (d :: F)
           | false => none
         | .assign (.tmp c) => match F.contains c with
           | true => fallsF n ops r (d :: F)
           | false => none
         | .pick (.tmp c) _ (.const (.bool false)) => match F.contains c with
           | true => fallsF n ops r (d :: F)
           | false => none
         | _ => none
def AllF (T : Array Value) (F : List Nat) : Prop := ∀ s ∈ F, T[s]? = some (.bool false)
theorem AllF.mem {T : Array Value} {F : List Nat} {c : Nat} (h : AllF T F) (hc : F.contains c = true) : T[c]? = some (.bool false) := h c (by simpa using hc)
theorem AllF.out {T : Array Value} {F : List Nat} {d : Nat} {v : Value} (h : AllF T F) (hd : F.contains d = false) : AllF (T.setIfInBounds d v) F := by
 intro s hs
 have hne : d ≠ s := by
  rintro rfl
  have : F.contains d = true := by simpa using hs
  rw [this] at hd
  cases hd
 rw [Array.getElem?_setIfInBounds_ne hne]
 exact h s hs
theorem AllF.add {T : Array Value} {F : List Nat} {d : Nat} (h : AllF T F) (hd : d < T.size) : AllF (T.setIfInBounds d (.bool false)) (d :: F) := by
 intro s hs
 by_cases e : d = s
 · subst e
   rw [Array.getElem?_setIfInBounds_self_of_lt hd]
 · rw [Array.getElem?_setIfInBounds_ne e]
   rcases List.mem_cons.1 hs with rfl | hs
   · exact absurd rfl e
   · exact h s hs
theorem getD_some {T : Array Value} {c : Nat} {v : Value} (h : T[c]? = some v) : T.getD c undef = v := by
 rw [Array.getD_eq_getD_getElem?, h]; rfl
theorem wp_run' {P : Program} {o : Oper} {a : Act} {w w' : World} {K : Act → World → Prop} {Q : Exit → Act → World → Prop} {v : Value} (he : (execOp a.eval o).run P w = .ok (.value v) w') (h : K (a.put o.dst v) w') : Oper.wp P o a w K Q := by
 unfold Oper.wp
 rw [he]
 exact h
theorem wpList_fallsF {P : Program} {ops : List Oper} {Q : Exit → Act → World → Prop} {w : World} {n : Nat} {F' : List Nat} : ∀ (l : List Oper) (T : Array Value) (D : List Deferred) (F : List Nat), AllF T F → T.size = n → fallsF n ops l F = some F' →
  (∀ T', AllF T' F' → Q .normal ⟨T', D⟩ w) → wpList P ops.toArray Q l ⟨T, D⟩ w
 | [], T, D, F, hF, hn, h, hQ => by
   unfold fallsF at h
   injection h with h
   subst h
   exact hQ T hF
 | o :: r, T, D, F, hF, hn, h, hQ => by
   unfold fallsF at h
   split at h
   · rename_i k hg
     split at h
     · rename_i s hs
       have hy : ∀ b, F.contains s = b → b = true → Region.wanted o (yielded ops.toArray T) = false := by
        intro b hb hbt
        subst hbt
        have h1 := hF.mem hb
        unfold Region.wanted
        rw [hg]
        simp only
        unfold yielded
        rw [show (ops.toArray[k]?) = nthOp ops k from by rw [List.getElem?_toArray, nthOp_eq], hs]
        simp [h1]
       split at h
       · rename_i d hc hd
         split at h
         · cases h
         · rename_i hdf
           refine wpList_skip (hy _ hc rfl) ?_
           rw [hd]
           exact wpList_fallsF r _ D F (hF.out hdf) (by simpa using hn) h hQ
       · rename_i hc hd
         refine wpList_skip (hy _ hc rfl) ?_
         rw [hd]
         exact wpList_fallsF r _ D F hF hn h hQ
       · cases h
     · cases h
   · cases h
   · rename_i hg
     split at h
     · cases h
     · rename_i d hd
       split at h
       · cases h
       · rename_i hlt
         have hlt : d < T.size := by rw [hn]; simpa using hlt
         have fin : (execOp (⟨T, D⟩ : Act).eval o).run P w = .ok (.value (.bool false)) w → fallsF n ops r (d :: F) = some F' → wpList P ops.toArray Q (o :: r) ⟨T, D⟩ w := fun he h =>
          wpList_plain hg fun K hK => wp_run' he (by
           rw [hd]
           exact hK _ _ (wpList_fallsF r _ D (d :: F) (hF.add hlt) (by simpa using hn) h hQ))
         split at h
         · rename_i c ho
           split at h
           · rename_i hc
             exact fin (by simp [execOp, ho, Act.eval, hF.mem hc]) h
           · cases h
         · rename_i c ho
           split at h
           · rename_i hc
             exact fin (by simp [execOp, ho, Act.eval, hF.mem hc]) h
           · cases h
         · rename_i c x ho
           split at h
           · rename_i hc
             exact fin (by simp [execOp, ho, Act.eval, hF.mem hc, asBool]) h
           · cases h
         · cases h
theorem wpList_false {P : Program} {ops : List Oper} {Q : Exit → Act → World → Prop} {w : World} {o : Oper} {r : List Oper} {T : Array Value} {D : List Deferred} (c s n : Nat) (hw : Region.wanted o (yielded ops.toArray T) = false) (hc : T[c]? = some (.bool false)) (hn : T.size = n)
  (h : ((fallsF n ops (o :: r) [c]).map (·.contains s)) = some true)
  (hQ : ∀ T : Array Value, T.getD s undef = .bool false → Q .normal ⟨T, D⟩ w) : wpList P ops.toArray Q (o :: r) ⟨T, D⟩ w := by
 cases hr : fallsF n ops (o :: r) [c] with
 | none => rw [hr] at h; cases h
 | some F =>
   rw [hr] at h
   injection h with h
   exact wpList_fallsF _ T D [c] (fun x hx => by simp at hx; subst hx; exact hc) hn hr (fun T' hT => hQ T' (getD_some (hT.mem h)))
end Go.Proofs.YtpcnedpheplofaaGreat

namespace Go.Proofs.YtpcnedpheplofaaGreat
open Go.RowKit
set_option maxRecDepth 100000
theorem row_vtk : RowTy Tryz.prog 49 38 := ⟨by kernel_rfl, by kernel_rfl⟩
theorem row_akk : RowTy Tryz.prog 37 38 := ⟨by kernel_rfl, by kernel_rfl⟩
theorem row_pok : RowTy Tryz.prog 47 11 := ⟨by kernel_rfl, by kernel_rfl⟩
theorem row_bak : RowTy Tryz.prog 45 5 := ⟨by kernel_rfl, by kernel_rfl⟩
theorem row_stk2 : RowTy Tryz.prog 32 38 := ⟨by kernel_rfl, by kernel_rfl⟩
set_option maxHeartbeats 4000000 in
theorem votes_eq (A B : Option Addr) (n d d' : Nat) (l m : List Wvt) (w : World) (hl : Lst 38 Wvt.cells (fun _ v => v.Ok) w A n l) (hm : Lst 38 Wvt.cells (fun _ v => v.Ok) w B n m) (hlm : l.map id = m.map id) (hn : n ≤ 1000) :
  Calls Tryz.prog 49 #[.slice A n d, .slice B n d'] w fun e w' => e = .returned (.bool true) ∧ Fr [] w w' := by
 have HL := Lib.hid hl
 have HM := Lib.hid hm
 have HLM := Lib.hid hlm
 have HN := Lib.hid hn
 have hn1 : (n : Int) ≤ 9223372036854775807 := by omega
 have hnn : ((n : Int) != (n : Int)) = false := by simp
 clear hl hm hn hlm
 go_enter Tryz.func49, Tryz.ntmps49
 go_wp2_with fail
 clear hnn
 go_loopw [5] (fun i wr => ∃ j : Nat, j ≤ n ∧ i = .int .i64 j ∧ Hid (Fr [] w wr)) (fun i _ => n - (intOf i).toNat)
 case atStart => exact ⟨0, by omega, rfl, Lib.hid (Fr.refl _ _)⟩
 case round =>
  obtain ⟨j, hj, rfl, HF⟩ := hrel
  by_cases hlt : j < n
  · obtain ⟨ad, v, hA, hv, hcl, hok, hcells⟩ := HL.out.at (i := j) hlt
    obtain ⟨bd, u, hB, hu, hclu, hoku, hcellu⟩ := HM.out.at (i := j) hlt
    subst hA
    subst hB
    have HVU := Lib.hid (map_at HLM.out hv hu)
    have HCELLS : Hid (∀ i c, (Wvt.cells v)[i]? = some c → wr.cell? ((ad.add (j * 38)).add i) = some c) := Lib.hid (fun i c hc => HF.out.cell (hcells i c hc) (by simp))
    have HCELLU : Hid (∀ i c, (Wvt.cells u)[i]? = some c → wr.cell? ((bd.add (j * 38)).add i) = some c) := Lib.hid (fun i c hc => HF.out.cell (hcellu i c hc) (by simp))
    have HCL := Lib.hid hcl
    have HCLU := Lib.hid hclu
    have HOK := Lib.hid hok
    have HOKU := Lib.hid hoku
    have HJN := Lib.hid hlt
    have hj0 : (0 : Int) ≤ j := by omega
    clear hcells hcl hok hv hcellu hclu hoku hu
    have hvu : v = u := HVU.out
    subst hvu
    have HEQ : Hid (∀ W : World, (Op.equalIn 10000 49 (.agg v.cells.toArray) (.agg v.cells.toArray)).run Tryz.prog W = .ok true W) := Lib.hid (fun W => by have h := eql_Wvt v v HOK.out.h HOK.out.h W; rw [(Wvt.eqB_iff v v).2 rfl] at h; exact h)
    go_upto_region 6 with (fail)
    refine wp_region_held_drew (S := Fr [] wr) (by kernel_rfl) (Fr.drew (Fr.refl _ wr)) (fun hHeld => ?_)
    generalize wr.drew = w9 at *
    refine run_at (i := 0) (v := ?_) rfl (by kernel_rfl) (by rfl) (fun _ _ _ h => h) hHeld (fun w1 hw1 => ?_) ?_
    rotate_left 1
    · skip
      go_simp
      try first | with_reducible rfl | apply And.intro <;> rfl
    simp only [xPa, xPb, xPc, xPd, xPe]
    refine run_at (i := 1) (v := ?_) rfl (by kernel_rfl) (by rfl) (fun _ _ _ h => h) hHeld (fun w1 hw1 => ?_) ?_
    rotate_left 1
    · skip
      go_simp
      try first | with_reducible rfl | apply And.intro <;> rfl
    simp only [xPa, xPb, xPc, xPd, xPe]
    refine run_at (i := 2) (v := ?_) rfl (by kernel_rfl) (by rfl) (fun _ _ _ h => h) hHeld (fun w1 hw1 => ?_) ?_
    rotate_left 1
    · skip
      go_simp
      try first | with_reducible rfl | apply And.intro <;> rfl
    simp only [xPa, xPb, xPc, xPd, xPe]
    refine crow_at (i := 3) rfl (by kernel_rfl) (by rfl) _ _ rfl _ rfl _ (fun w1 hw1 j v hv => hw1.cell ((HCELLS.out) j v hv) (by simp)) (row_vtk.of HCL.out) (fun _ _ _ h => h) hHeld ?_
    simp only [xPa, xPb, xPc, xPd, xPe]
    refine run_at (i := 4) (v := ?_) rfl (by kernel_rfl) (by rfl) (fun _ _ _ h => h) hHeld (fun w1 hw1 => ?_) ?_
    rotate_left 1
    · skip
      go_simp
      try first | with_reducible rfl | apply And.intro <;> rfl
    simp only [xPa, xPb, xPc, xPd, xPe]
    refine run_at (i := 5) (v := ?_) rfl (by kernel_rfl) (by rfl) (fun _ _ _ h => h) hHeld (fun w1 hw1 => ?_) ?_
    rotate_left 1
    · skip
      go_simp
      try first | with_reducible rfl | apply And.intro <;> rfl
    simp only [xPa, xPb, xPc, xPd, xPe]
    refine run_at (i := 6) (v := ?_) rfl (by kernel_rfl) (by rfl) (fun _ _ _ h => h) hHeld (fun w1 hw1 => ?_) ?_
    rotate_left 1
    · skip
      go_simp
      try first | with_reducible rfl | apply And.intro <;> rfl
    simp only [xPa, xPb, xPc, xPd, xPe]
    refine crow_at (i := 7) rfl (by kernel_rfl) (by rfl) _ _ rfl _ rfl _ (fun w1 hw1 j v hv => hw1.cell ((HCELLU.out) j v hv) (by simp)) (row_vtk.of HCLU.out) (fun _ _ _ h => h) hHeld ?_
    simp only [xPa, xPb, xPc, xPd, xPe]
    refine neq_at (i := 8) rfl (by kernel_rfl) (by rfl) _ _ _ _ rfl _ _ rfl rfl _ (by kernel_rfl) (HEQ.out) (fun _ _ _ h => h) hHeld ?_
    simp only [xPa, xPb, xPc, xPd, xPe]
    refine wpAnyH_done (by kernel_rfl) ?_ _
    have HF9 : Hid (Fr [] w w9) := Lib.hid (HF.out.and hHeld (by simp))
    clear hHeld HCELLS HCL HCELLU HCLU HVU
    clear HOK HOKU
    go_wp2
    go_roundw
    case rel => exact ⟨j + 1, by have := HJN.out; omega, by go_num, HF9⟩
    case measure => have := HJN.out; simp [intOf]; omega
  · have hjn : n = j := by omega
    subst hjn
    clear hlt hj
    go_wp2
    go_ret
    exact ⟨rfl, HF.out⟩
set_option maxHeartbeats 2000000 in
theorem proposal_eq (x y : Wpo) (w : World) (hx : x.Li w []) (hy : y.Li w []) (he : x.con = y.con) (C D : List Value) (hC : x.cells = C) (hD : y.cells = D) :
  Calls Tryz.prog 46 #[.agg C.toArray, .agg D.toArray] w fun e w' => e = .returned (.bool true) ∧ Fr [] w w' := by
 obtain ⟨wa, hwa⟩ : ∃ wa, wa = (w.alloc (Obj.cells C.toArray 47)).alloc (Obj.cells D.toArray 47) := ⟨_, rfl⟩
 have hf0 : Fr [] w wa := by rw [hwa]; exact ((Fr.refl [] w).alloc _).alloc _
 have hb0 : Blk wa w.heap.size 47 x.cells.toArray := by rw [hwa, hC]; exact blk_alloc (Blk.new _ _ _)
 have hb1 : Blk wa (w.heap.size + 1) 47 y.cells.toArray := by
  have := Blk.new (w.alloc (Obj.cells C.toArray 47)) 47 D.toArray
  rw [hwa, hD]
  simpa using this
 obtain ⟨e, r, v, p, k, b, mm⟩ := x
 obtain ⟨e', r', v', p', k', b', mm'⟩ := y
 unfold Wpo.con at he
 simp only [Cpo.mk.injEq] at he
 obtain ⟨rfl, rfl, rfl, rfl, hk, rfl, rfl⟩ := he
 have hr0 := hb0.range
 have hr1 := hb1.range
 have h00 : wa.cell? ⟨w.heap.size, 0, none⟩ = some (.int .i64 e) := by have h := hr0 0 _ rfl; simpa using h
 have h10 : wa.cell? ⟨w.heap.size + 1, 0, none⟩ = some (.int .i64 e) := by have h := hr1 0 _ rfl; simpa using h
 have h01 : wa.cell? ⟨w.heap.size, 1, none⟩ = some (.int .i64 r) := by have h := hr0 1 _ rfl; simpa using h
 have h11 : wa.cell? ⟨w.heap.size + 1, 1, none⟩ = some (.int .i64 r) := by have h := hr1 1 _ rfl; simpa using h
 have h02 : wa.cell? ⟨w.heap.size, 2, none⟩ = some (.int .i64 v) := by have h := hr0 2 _ rfl; simpa using h
 have h12 : wa.cell? ⟨w.heap.size + 1, 2, none⟩ = some (.int .i64 v) := by have h := hr1 2 _ rfl; simpa using h
 have h03 : wa.cell? ⟨w.heap.size, 3, none⟩ = some (.int .i64 p) := by have h := hr0 3 _ rfl; simpa using h
 have h13 : wa.cell? ⟨w.heap.size + 1, 3, none⟩ = some (.int .i64 p) := by have h := hr1 3 _ rfl; simpa using h
 have HK0 : Hid (wa.rangeAt w.heap.size 4 k.cells) := Lib.hid (rangeAt_sub (o := 0) (xs := [.int .i64 e, .int .i64 r, .int .i64 v, .int .i64 p]) (ys := k.cells) (zs := [.int .i64 b, .int .i64 mm]) hr0)
 have HK1 : Hid (wa.rangeAt (w.heap.size + 1) 4 k'.cells) := Lib.hid (rangeAt_sub (o := 0) (xs := [.int .i64 e, .int .i64 r, .int .i64 v, .int .i64 p]) (ys := k'.cells) (zs := [.int .i64 b, .int .i64 mm]) hr1)
 have HH0 : Hid (wa.rangeAt w.heap.size 9 [.int .i64 b, .int .i64 mm]) := Lib.hid (ra_tail (o := 4) (k := 5) (ra_tail (o := 0) (k := 4) (a := [.int .i64 e, .int .i64 r, .int .i64 v, .int .i64 p]) hr0 rfl) rfl)
 have HH1 : Hid (wa.rangeAt (w.heap.size + 1) 9 [.int .i64 b, .int .i64 mm]) := Lib.hid (ra_tail (o := 4) (k := 5) (ra_tail (o := 0) (k := 4) (a := [.int .i64 e, .int .i64 r, .int .i64 v, .int .i64 p]) hr1 rfl) rfl)
 have HEQ : Hid ((Op.equalIn 10000 27 (.agg #[.int .i64 b, .int .i64 mm]) (.agg #[.int .i64 b, .int .i64 mm])).run Tryz.prog wa = .ok true wa) := Lib.hid (sig_selfd b mm 9998 wa)
 have HF0 := Lib.hid hf0
 have HWA := Lib.hid hwa
 have HX : Hid (k.Li wa []) := Lib.hid (hx.k.keep hf0 (by simp))
 have HY : Hid (k'.Li wa []) := Lib.hid (hy.k.keep hf0 (by simp))
 have HKK := Lib.hid hk
 have hee : (e == e) = true := by simp
 have hrr : (r == r) = true := by simp
 have hvv : (v == v) = true := by simp
 have hpp : (p == p) = true := by simp
 clear hwa hf0 hb0 hb1 hr0 hr1 hx hy hC hD hk
 obtain ⟨KC, hKC⟩ : ∃ KC, k.cells = KC := ⟨_, rfl⟩
 obtain ⟨KD, hKD⟩ : ∃ KD, k'.cells = KD := ⟨_, rfl⟩
 rw [hKC] at HK0
 rw [hKD] at HK1
 have HLC : Hid (KC.length = 5) := Lib.hid (by rw [← hKC]; rfl)
 have HLD : Hid (KD.length = 5) := Lib.hid (by rw [← hKD]; rfl)
 have HKC := Lib.hid hKC
 have HKD := Lib.hid hKD
 clear hKC hKD
 go_enter Tryz.func46, Tryz.ntmps46
 go_upto_region 1 with (fail)
 change Code.wp _ _ _ _ ((w.alloc (Obj.cells C.toArray 47)).alloc (Obj.cells D.toArray 47))
 rw [← HWA.out]
 go_wp2_with (first
  | (refine wpList_midg rfl 27 _ rfl w.heap.size 9 rfl [.int .i64 b, .int .i64 mm] HH0.out row_sg2 ?_)
  | (refine wpList_midg rfl 27 _ rfl (w.heap.size + 1) 9 rfl [.int .i64 b, .int .i64 mm] HH1.out row_sg2 ?_)
  | (refine wpList_midg rfl 45 _ rfl w.heap.size 4 rfl KC HK0.out (row_bak.of HLC.out) ?_)
  | (refine wpList_midg rfl 45 _ rfl (w.heap.size + 1) 4 rfl KD HK1.out (row_bak.of HLD.out) ?_)
  | (refine wpList_eqlg rfl 27 _ _ _ rfl #[.int .i64 b, .int .i64 mm] #[.int .i64 b, .int .i64 mm] rfl rfl true (by kernel_rfl) HEQ.out ?_))
 refine (batch_eq k k' wa HX.out HY.out HKK.out _ _ HKC.out HKD.out).mono ?_
 rintro e_ w1 ⟨rfl, hf1⟩
 have HF1 : Hid (Fr [] w w1) := Lib.hid (HF0.out.and hf1 (by simp))
 clear hf1 h00 h10 h01 h11 h02 h12 h03 h13 hee hrr hvv hpp
 go_wp2
 go_ret
 exact ⟨rfl, HF1.out⟩
theorem Wmg.Li.len {w : World} {S : List Nat} {x : Wmg} (h : x.Li w S) : x.Len := ⟨h.cm.h, h.st.h, h.ce.k.h, h.ak.h, h.vt.h, h.en.h, h.op.h⟩
theorem Wdc.at_k {w : World} {g o : Nat} {x : Wdc} (h : w.rangeAt g o x.cells) : w.cell? ⟨g, o, none⟩ = some (.int .i64 x.e) ∧ w.cell? ⟨g, o + 1, none⟩ = some (.int .i64 x.r) ∧ w.rangeAt g (o + 2) x.k.cells ∧ w.cell? ⟨g, o + 7, none⟩ = some (.slice x.A x.n x.d) := by
 have h2 := ra_tail (k := 2) h rfl
 exact ⟨by have h := h 0 _ rfl; simpa using h, by have h := h 1 _ rfl; simpa using h, ra_head h2, by have h := ra_tail (k := 5) h2 rfl 0 _ rfl; simpa using h⟩
def KmPost (c : Prop) (w : World) (e : Ending) (w' : World) : Prop := ∃ b : Bool, e = .returned (.bool b) ∧ (b = true ↔ c) ∧ Fr [] w w'
theorem KmPost.f {c : Prop} {w w' : World} (h : ¬ c) (hf : Fr [] w w') : KmPost c w (.returned (.bool false)) w' := ⟨false, rfl, by simp [h], hf⟩
theorem KmPost.t {c : Prop} {w w' : World} (h : c) (hf : Fr [] w w') : KmPost c w (.returned (.bool true)) w' := ⟨true, rfl, by simp [h], hf⟩
set_option maxHeartbeats 8000000 in
theorem kmsg_any (x y : Wmg) (w : World) (hx : x.Li w []) (hy : y.Li w []) (hq : x.q = y.q) (hcm : x.cm = y.cm) (hst : x.st = y.st) (hce : x.ce.con = y.ce.con) (hak : x.ak = y.ak) (hpr : x.pr.con = y.pr.con) (hpo : x.po.con = y.po.con) (hop : x.op.con = y.op.con) (hdn : x.dn = y.dn) (hrp : x.rp = y.rp) (hde : x.de.con = y.de.con)
  (C D : List Value) (hC : x.cells = C) (hD : y.cells = D) :
  Calls Tryz.prog 10 #[.agg C.toArray, .agg D.toArray] w fun e w' => KmPost (x.f = y.f ∧ x.t = y.t ∧ x.e = y.e ∧ x.r = y.r ∧ x.tm = y.tm ∧ x.vt = y.vt ∧ x.i = y.i ∧ x.en = y.en) w e w' := by
 obtain ⟨wa, hwa⟩ : ∃ wa, wa = (w.alloc (Obj.cells C.toArray 61)).alloc (Obj.cells D.toArray 61) := ⟨_, rfl⟩
 have hf0 : Fr [] w wa := by rw [hwa]; exact ((Fr.refl [] w).alloc _).alloc _
 have hb0 : Blk wa w.heap.size 61 x.cells.toArray := by rw [hwa, hC]; exact blk_alloc (Blk.new _ _ _)
 have hb1 : Blk wa (w.heap.size + 1) 61 y.cells.toArray := by
  have := Blk.new (w.alloc (Obj.cells C.toArray 61)) 61 D.toArray
  rw [hwa, hD]
  simpa using this
 obtain ⟨q, f, t, cm, st, ce, ak, e, r, tm, pr, po, vt, i, en, op, dn, rp, de⟩ := x
 obtain ⟨q', f', t', cm', st', ce', ak', e', r', tm', pr', po', vt', i', en', op', dn', rp', de'⟩ := y
 simp only at hq hcm hst hce hak hpr hpo hop hdn hrp hde
 subst hq hcm hst hak hdn hrp
 have HB0 := Lib.hid hb0
 have HB1 := Lib.hid hb1
 have HLX := Lib.hid hx.len
 have HLY := Lib.hid hy.len
 have HF0 := Lib.hid hf0
 have HWA := Lib.hid hwa
 have HX := Lib.hid hx
 have HY := Lib.hid hy
 have HCE := Lib.hid hce
 have HPR := Lib.hid hpr
 have HPO := Lib.hid hpo
 have HOP := Lib.hid hop
 have HDE := Lib.hid hde
 clear hwa hf0 hb0 hb1 hx hy hC hD hce hpr hpo hop hde
 obtain ⟨Ccm, hCcm⟩ : ∃ L, L = cm.cells := ⟨_, rfl⟩
 have HLcm : Hid (Ccm.length = 37) := Lib.hid (by rw [hCcm]; exact Wcm.len HLX.out.cm)
 have HCcm := Lib.hid hCcm
 clear hCcm
 obtain ⟨Cst, hCst⟩ : ∃ L, L = st.cells := ⟨_, rfl⟩
 have HLst : Hid (Cst.length = 38) := Lib.hid (by rw [hCst]; exact Wst.len HLX.out.st)
 have HCst := Lib.hid hCst
 clear hCst
 obtain ⟨Cce, hCce⟩ : ∃ L, L = ce.cells := ⟨_, rfl⟩
 have HLce : Hid (Cce.length = 38) := Lib.hid (by rw [hCce]; exact Wce.len HLX.out.ce)
 have HCce := Lib.hid hCce
 clear hCce
 obtain ⟨Dce, hDce⟩ : ∃ L, L = ce'.cells := ⟨_, rfl⟩
 have HMce : Hid (Dce.length = 38) := Lib.hid (by rw [hDce]; exact Wce.len HLY.out.ce)
 have HDce := Lib.hid hDce
 clear hDce
 obtain ⟨Cak, hCak⟩ : ∃ L, L = ak.cells := ⟨_, rfl⟩
 have HLak : Hid (Cak.length = 38) := Lib.hid (by rw [hCak]; exact Wst.len HLX.out.ak)
 have HCak := Lib.hid hCak
 clear hCak
 obtain ⟨Cpr, hCpr⟩ : ∃ L, L = pr.cells := ⟨_, rfl⟩
 have HLpr : Hid (Cpr.length = 6) := Lib.hid (by rw [hCpr]; exact Wpr.len _)
 have HCpr := Lib.hid hCpr
 clear hCpr
 obtain ⟨Dpr, hDpr⟩ : ∃ L, L = pr'.cells := ⟨_, rfl⟩
 have HMpr : Hid (Dpr.length = 6) := Lib.hid (by rw [hDpr]; exact Wpr.len _)
 have HDpr := Lib.hid hDpr
 clear hDpr
 obtain ⟨Cpo, hCpo⟩ : ∃ L, L = po.cells := ⟨_, rfl⟩
 have HLpo : Hid (Cpo.length = 11) := Lib.hid (by rw [hCpo]; exact Wpo.len _)
 have HCpo := Lib.hid hCpo
 clear hCpo
 obtain ⟨Dpo, hDpo⟩ : ∃ L, L = po'.cells := ⟨_, rfl⟩
 have HMpo : Hid (Dpo.length = 11) := Lib.hid (by rw [hDpo]; exact Wpo.len _)
 have HDpo := Lib.hid hDpo
 clear hDpo
 obtain ⟨Cvt, hCvt⟩ : ∃ L, L = vt.cells := ⟨_, rfl⟩
 have HLvt : Hid (Cvt.length = 38) := Lib.hid (by rw [hCvt]; exact Wvt.len HLX.out.vt)
 have HCvt := Lib.hid hCvt
 clear hCvt
 obtain ⟨Dvt, hDvt⟩ : ∃ L, L = vt'.cells := ⟨_, rfl⟩
 have HMvt : Hid (Dvt.length = 38) := Lib.hid (by rw [hDvt]; exact Wvt.len HLY.out.vt)
 have HDvt := Lib.hid hDvt
 clear hDvt
 obtain ⟨Cen, hCen⟩ : ∃ L, L = en.cells := ⟨_, rfl⟩
 have HLen : Hid (Cen.length = 35) := Lib.hid (by rw [hCen]; exact Wen.len HLX.out.en)
 have HCen := Lib.hid hCen
 clear hCen
 obtain ⟨Den, hDen⟩ : ∃ L, L = en'.cells := ⟨_, rfl⟩
 have HMen : Hid (Den.length = 35) := Lib.hid (by rw [hDen]; exact Wen.len HLY.out.en)
 have HDen := Lib.hid hDen
 clear hDen
 obtain ⟨Cop, hCop⟩ : ∃ L, L = op.cells := ⟨_, rfl⟩
 have HLop : Hid (Cop.length = 34) := Lib.hid (by rw [hCop]; exact Wop.len HLX.out.op)
 have HCop := Lib.hid hCop
 clear hCop
 obtain ⟨Dop, hDop⟩ : ∃ L, L = op'.cells := ⟨_, rfl⟩
 have HMop : Hid (Dop.length = 34) := Lib.hid (by rw [hDop]; exact Wop.len HLY.out.op)
 have HDop := Lib.hid hDop
 clear hDop
 obtain ⟨Cdn, hCdn⟩ : ∃ L, L = dn.cells := ⟨_, rfl⟩
 have HLdn : Hid (Cdn.length = 4) := Lib.hid (by rw [hCdn]; exact Wdn.len _)
 have HCdn := Lib.hid hCdn
 clear hCdn
 go_enter Tryz.func10, Tryz.ntmps10
 go_upto_region 1 with (fail)
 change Code.wp _ _ _ _ ((w.alloc (Obj.cells C.toArray 61)).alloc (Obj.cells D.toArray 61))
 rw [← HWA.out]
 have hat0 := Wmg.at_len HB0.out.range HLX.out
 have hau0 := Wmg.at_len HB1.out.range HLY.out
 have cq0 : wa.cell? ⟨w.heap.size, 0, none⟩ = some (.int .i64 (q)) := by have h := hat0.q 0 _ rfl; simpa using h
 have dq0 : wa.cell? ⟨w.heap.size + 1, 0, none⟩ = some (.int .i64 (q)) := by have h := hau0.q 0 _ rfl; simpa using h
 have cf0 : wa.cell? ⟨w.heap.size, 1, none⟩ = some (.int .i64 (f)) := by have h := hat0.f 0 _ rfl; simpa using h
 have df0 : wa.cell? ⟨w.heap.size + 1, 1, none⟩ = some (.int .i64 (f')) := by have h := hau0.f 0 _ rfl; simpa using h
 have ct0 : wa.cell? ⟨w.heap.size, 2, none⟩ = some (.int .i64 (t)) := by have h := hat0.t 0 _ rfl; simpa using h
 have dt0 : wa.cell? ⟨w.heap.size + 1, 2, none⟩ = some (.int .i64 (t')) := by have h := hau0.t 0 _ rfl; simpa using h
 have HRcm0 : Hid (wa.rangeAt w.heap.size 3 Ccm) := Lib.hid (by rw [HCcm.out]; exact hat0.cm)
 have HScm0 : Hid (wa.rangeAt (w.heap.size + 1) 3 Ccm) := Lib.hid (by rw [HCcm.out]; exact hau0.cm)
 have HRst0 : Hid (wa.rangeAt w.heap.size 40 Cst) := Lib.hid (by rw [HCst.out]; exact hat0.st)
 have HSst0 : Hid (wa.rangeAt (w.heap.size + 1) 40 Cst) := Lib.hid (by rw [HCst.out]; exact hau0.st)
 have HRce0 : Hid (wa.rangeAt w.heap.size 78 Cce) := Lib.hid (by rw [HCce.out]; exact hat0.ce)
 have HSce0 : Hid (wa.rangeAt (w.heap.size + 1) 78 Dce) := Lib.hid (by rw [HDce.out]; exact hau0.ce)
 have HQcm : Hid ((Op.equalIn 10000 29 (.agg Ccm.toArray) (.agg Ccm.toArray)).run Tryz.prog wa = .ok true wa) := Lib.hid (by rw [HCcm.out]; exact eq_Wcm cm HLX.out.cm wa)
 have HQst : Hid ((Op.equalIn 10000 32 (.agg Cst.toArray) (.agg Cst.toArray)).run Tryz.prog wa = .ok true wa) := Lib.hid (by rw [HCst.out]; have h := eql_Wst st st HLX.out.st HLX.out.st wa; rw [(Wst.eqB_iff st st).2 rfl] at h; exact h)
 clear hat0 hau0
 have gq : ((q : Int) == q) = true := by simp
 by_cases hf : f = f'
 case neg =>
  have gf : ((f : Int) == (f' : Int)) = false := by simp; omega
  iterate 27 (first
    | (show wpList _ _ _ _ _ _; refine wpList_midg (by kernel_rfl) 29 _ rfl w.heap.size 3 rfl Ccm HRcm0.out (row_cmt.of HLcm.out) ?_)
    | (show wpList _ _ _ _ _ _; refine wpList_midg (by kernel_rfl) 29 _ rfl (w.heap.size + 1) 3 rfl Ccm HScm0.out (row_cmt.of HLcm.out) ?_)
    | (show wpList _ _ _ _ _ _; refine wpList_midg (by kernel_rfl) 32 _ rfl w.heap.size 40 rfl Cst HRst0.out (row_stk2.of HLst.out) ?_)
    | (show wpList _ _ _ _ _ _; refine wpList_midg (by kernel_rfl) 32 _ rfl (w.heap.size + 1) 40 rfl Cst HSst0.out (row_stk2.of HLst.out) ?_)
    | (show wpList _ _ _ _ _ _; refine wpList_midg (by kernel_rfl) 35 _ rfl w.heap.size 78 rfl Cce HRce0.out (row_crt.of HLce.out) ?_)
    | (show wpList _ _ _ _ _ _; refine wpList_midg (by kernel_rfl) 35 _ rfl (w.heap.size + 1) 78 rfl Dce HSce0.out (row_crt.of HMce.out) ?_)
    | (show wpList _ _ _ _ _ _; refine wpList_eqlg (by kernel_rfl) 29 _ _ _ rfl Ccm.toArray Ccm.toArray rfl rfl true (by kernel_rfl) HQcm.out ?_)
    | (show wpList _ _ _ _ _ _; refine wpList_eqlg (by kernel_rfl) 32 _ _ _ rfl Cst.toArray Cst.toArray rfl rfl true (by kernel_rfl) HQst.out ?_)
    | go_values
    | go_skip
    | go_guarded
    | go_step
    | go_upon
    | go_back)
  refine wpList_false 17 4 _ (by kernel_rfl) rfl rfl (by kernel_rfl) ?_
  intro T hT
  go_wp2
  go_ret
  rw [hT]
  exact KmPost.f (by simp [hf]) HF0.out
 have gf : ((f : Int) == (f' : Int)) = true := by simp; omega
 by_cases ht : t = t'
 case neg =>
  have gt : ((t : Int) == (t' : Int)) = false := by simp; omega
  iterate 41 (first
    | (show wpList _ _ _ _ _ _; refine wpList_midg (by kernel_rfl) 29 _ rfl w.heap.size 3 rfl Ccm HRcm0.out (row_cmt.of HLcm.out) ?_)
    | (show wpList _ _ _ _ _ _; refine wpList_midg (by kernel_rfl) 29 _ rfl (w.heap.size + 1) 3 rfl Ccm HScm0.out (row_cmt.of HLcm.out) ?_)
    | (show wpList _ _ _ _ _ _; refine wpList_midg (by kernel_rfl) 32 _ rfl w.heap.size 40 rfl Cst HRst0.out (row_stk2.of HLst.out) ?_)
    | (show wpList _ _ _ _ _ _; refine wpList_midg (by kernel_rfl) 32 _ rfl (w.heap.size + 1) 40 rfl Cst HSst0.out (row_stk2.of HLst.out) ?_)
    | (show wpList _ _ _ _ _ _; refine wpList_midg (by kernel_rfl) 35 _ rfl w.heap.size 78 rfl Cce HRce0.out (row_crt.of HLce.out) ?_)
    | (show wpList _ _ _ _ _ _; refine wpList_midg (by kernel_rfl) 35 _ rfl (w.heap.size + 1) 78 rfl Dce HSce0.out (row_crt.of HMce.out) ?_)
    | (show wpList _ _ _ _ _ _; refine wpList_eqlg (by kernel_rfl) 29 _ _ _ rfl Ccm.toArray Ccm.toArray rfl rfl true (by kernel_rfl) HQcm.out ?_)
    | (show wpList _ _ _ _ _ _; refine wpList_eqlg (by kernel_rfl) 32 _ _ _ rfl Cst.toArray Cst.toArray rfl rfl true (by kernel_rfl) HQst.out ?_)
    | go_values
    | go_skip
    | go_guarded
    | go_step
    | go_upon
    | go_back)
  refine wpList_false 24 4 _ (by kernel_rfl) rfl rfl (by kernel_rfl) ?_
  intro T hT
  go_wp2
  go_ret
  rw [hT]
  exact KmPost.f (by simp [ht]) HF0.out
 have gt : ((t : Int) == (t' : Int)) = true := by simp; omega
 repeat (first
   | (show wpList _ _ _ _ _ _; refine wpList_midg (by kernel_rfl) 29 _ rfl w.heap.size 3 rfl Ccm HRcm0.out (row_cmt.of HLcm.out) ?_)
   | (show wpList _ _ _ _ _ _; refine wpList_midg (by kernel_rfl) 29 _ rfl (w.heap.size + 1) 3 rfl Ccm HScm0.out (row_cmt.of HLcm.out) ?_)
   | (show wpList _ _ _ _ _ _; refine wpList_midg (by kernel_rfl) 32 _ rfl w.heap.size 40 rfl Cst HRst0.out (row_stk2.of HLst.out) ?_)
   | (show wpList _ _ _ _ _ _; refine wpList_midg (by kernel_rfl) 32 _ rfl (w.heap.size + 1) 40 rfl Cst HSst0.out (row_stk2.of HLst.out) ?_)
   | (show wpList _ _ _ _ _ _; refine wpList_midg (by kernel_rfl) 35 _ rfl w.heap.size 78 rfl Cce HRce0.out (row_crt.of HLce.out) ?_)
   | (show wpList _ _ _ _ _ _; refine wpList_midg (by kernel_rfl) 35 _ rfl (w.heap.size + 1) 78 rfl Dce HSce0.out (row_crt.of HMce.out) ?_)
   | (show wpList _ _ _ _ _ _; refine wpList_eqlg (by kernel_rfl) 29 _ _ _ rfl Ccm.toArray Ccm.toArray rfl rfl true (by kernel_rfl) HQcm.out ?_)
   | (show wpList _ _ _ _ _ _; refine wpList_eqlg (by kernel_rfl) 32 _ _ _ rfl Cst.toArray Cst.toArray rfl rfl true (by kernel_rfl) HQst.out ?_)
   | go_values
   | go_skip
   | go_guarded
   | go_step
   | go_upon
   | go_back)
 refine (cert_eq ce ce' wa (HX.out.ce.keep HF0.out (by simp)) (HY.out.ce.keep HF0.out (by simp)) HCE.out _ _ HCce.out.symm HDce.out.symm).mono ?_
 rintro e_ w1 ⟨rfl, hf1⟩
 have HF1 : Hid (Fr [] w w1) := Lib.hid (HF0.out.and hf1 (by simp))
 have HB01 := Lib.hid (HB0.out.keep hf1 (by simp))
 have HB11 := Lib.hid (HB1.out.keep hf1 (by simp))
 clear hf1 cq0 dq0 cf0 df0 ct0 dt0 gq gf gt HRcm0 HScm0 HRst0 HSst0 HRce0 HSce0 HQcm HQst
 go_simp
 have hat1 := Wmg.at_len HB01.out.range HLX.out
 have hau1 := Wmg.at_len HB11.out.range HLY.out
 have ce1 : w1.cell? ⟨w.heap.size, 154, none⟩ = some (.int .i64 (e)) := by have h := hat1.e 0 _ rfl; simpa using h
 have de1 : w1.cell? ⟨w.heap.size + 1, 154, none⟩ = some (.int .i64 (e')) := by have h := hau1.e 0 _ rfl; simpa using h
 have cr1 : w1.cell? ⟨w.heap.size, 155, none⟩ = some (.int .i64 (r)) := by have h := hat1.r 0 _ rfl; simpa using h
 have dr1 : w1.cell? ⟨w.heap.size + 1, 155, none⟩ = some (.int .i64 (r')) := by have h := hau1.r 0 _ rfl; simpa using h
 have ctm1 : w1.cell? ⟨w.heap.size, 156, none⟩ = some (.int .u64 (tm : Int)) := by have h := hat1.tm 0 _ rfl; simpa using h
 have dtm1 : w1.cell? ⟨w.heap.size + 1, 156, none⟩ = some (.int .u64 (tm' : Int)) := by have h := hau1.tm 0 _ rfl; simpa using h
 have HRak1 : Hid (w1.rangeAt w.heap.size 116 Cak) := Lib.hid (by rw [HCak.out]; exact hat1.ak)
 have HSak1 : Hid (w1.rangeAt (w.heap.size + 1) 116 Cak) := Lib.hid (by rw [HCak.out]; exact hau1.ak)
 have HRpr1 : Hid (w1.rangeAt w.heap.size 157 Cpr) := Lib.hid (by rw [HCpr.out]; exact hat1.pr)
 have HSpr1 : Hid (w1.rangeAt (w.heap.size + 1) 157 Dpr) := Lib.hid (by rw [HDpr.out]; exact hau1.pr)
 have HQak : Hid ((Op.equalIn 10000 37 (.agg Cak.toArray) (.agg Cak.toArray)).run Tryz.prog w1 = .ok true w1) := Lib.hid (by rw [HCak.out]; have h := eql_Wak ak ak HLX.out.ak HLX.out.ak w1; rw [(Wst.eqB_iff ak ak).2 rfl] at h; exact h)
 clear hat1 hau1
 by_cases he : e = e'
 case neg =>
  have ge : ((e : Int) == (e' : Int)) = false := by simp; omega
  iterate 30 (first
    | (show wpList _ _ _ _ _ _; refine wpList_midg (by kernel_rfl) 37 _ rfl w.heap.size 116 rfl Cak HRak1.out (row_akk.of HLak.out) ?_)
    | (show wpList _ _ _ _ _ _; refine wpList_midg (by kernel_rfl) 37 _ rfl (w.heap.size + 1) 116 rfl Cak HSak1.out (row_akk.of HLak.out) ?_)
    | (show wpList _ _ _ _ _ _; refine wpList_midg (by kernel_rfl) 40 _ rfl w.heap.size 157 rfl Cpr HRpr1.out (row_prm.of HLpr.out) ?_)
    | (show wpList _ _ _ _ _ _; refine wpList_midg (by kernel_rfl) 40 _ rfl (w.heap.size + 1) 157 rfl Dpr HSpr1.out (row_prm.of HMpr.out) ?_)
    | (show wpList _ _ _ _ _ _; refine wpList_eqlg (by kernel_rfl) 37 _ _ _ rfl Cak.toArray Cak.toArray rfl rfl true (by kernel_rfl) HQak.out ?_)
    | go_values
    | go_skip
    | go_guarded
    | go_step
    | go_upon
    | go_back)
  refine wpList_false 59 4 _ (by kernel_rfl) rfl rfl (by kernel_rfl) ?_
  intro T hT
  go_wp2
  go_ret
  rw [hT]
  exact KmPost.f (by simp [he]) HF1.out
 have ge : ((e : Int) == (e' : Int)) = true := by simp; omega
 by_cases hr : r = r'
 case neg =>
  have gr : ((r : Int) == (r' : Int)) = false := by simp; omega
  iterate 44 (first
    | (show wpList _ _ _ _ _ _; refine wpList_midg (by kernel_rfl) 37 _ rfl w.heap.size 116 rfl Cak HRak1.out (row_akk.of HLak.out) ?_)
    | (show wpList _ _ _ _ _ _; refine wpList_midg (by kernel_rfl) 37 _ rfl (w.heap.size + 1) 116 rfl Cak HSak1.out (row_akk.of HLak.out) ?_)
    | (show wpList _ _ _ _ _ _; refine wpList_midg (by kernel_rfl) 40 _ rfl w.heap.size 157 rfl Cpr HRpr1.out (row_prm.of HLpr.out) ?_)
    | (show wpList _ _ _ _ _ _; refine wpList_midg (by kernel_rfl) 40 _ rfl (w.heap.size + 1) 157 rfl Dpr HSpr1.out (row_prm.of HMpr.out) ?_)
    | (show wpList _ _ _ _ _ _; refine wpList_eqlg (by kernel_rfl) 37 _ _ _ rfl Cak.toArray Cak.toArray rfl rfl true (by kernel_rfl) HQak.out ?_)
    | go_values
    | go_skip
    | go_guarded
    | go_step
    | go_upon
    | go_back)
  refine wpList_false 66 4 _ (by kernel_rfl) rfl rfl (by kernel_rfl) ?_
  intro T hT
  go_wp2
  go_ret
  rw [hT]
  exact KmPost.f (by simp [hr]) HF1.out
 have gr : ((r : Int) == (r' : Int)) = true := by simp; omega
 by_cases htm : tm = tm'
 case neg =>
  have gtm : ((tm : Int) == (tm' : Int)) = false := by simp; omega
  iterate 58 (first
    | (show wpList _ _ _ _ _ _; refine wpList_midg (by kernel_rfl) 37 _ rfl w.heap.size 116 rfl Cak HRak1.out (row_akk.of HLak.out) ?_)
    | (show wpList _ _ _ _ _ _; refine wpList_midg (by kernel_rfl) 37 _ rfl (w.heap.size + 1) 116 rfl Cak HSak1.out (row_akk.of HLak.out) ?_)
    | (show wpList _ _ _ _ _ _; refine wpList_midg (by kernel_rfl) 40 _ rfl w.heap.size 157 rfl Cpr HRpr1.out (row_prm.of HLpr.out) ?_)
    | (show wpList _ _ _ _ _ _; refine wpList_midg (by kernel_rfl) 40 _ rfl (w.heap.size + 1) 157 rfl Dpr HSpr1.out (row_prm.of HMpr.out) ?_)
    | (show wpList _ _ _ _ _ _; refine wpList_eqlg (by kernel_rfl) 37 _ _ _ rfl Cak.toArray Cak.toArray rfl rfl true (by kernel_rfl) HQak.out ?_)
    | go_values
    | go_skip
    | go_guarded
    | go_step
    | go_upon
    | go_back)
  refine wpList_false 73 4 _ (by kernel_rfl) rfl rfl (by kernel_rfl) ?_
  intro T hT
  go_wp2
  go_ret
  rw [hT]
  exact KmPost.f (by simp [htm]) HF1.out
 have gtm : ((tm : Int) == (tm' : Int)) = true := by simp; omega
 repeat (first
   | (show wpList _ _ _ _ _ _; refine wpList_midg (by kernel_rfl) 37 _ rfl w.heap.size 116 rfl Cak HRak1.out (row_akk.of HLak.out) ?_)
   | (show wpList _ _ _ _ _ _; refine wpList_midg (by kernel_rfl) 37 _ rfl (w.heap.size + 1) 116 rfl Cak HSak1.out (row_akk.of HLak.out) ?_)
   | (show wpList _ _ _ _ _ _; refine wpList_midg (by kernel_rfl) 40 _ rfl w.heap.size 157 rfl Cpr HRpr1.out (row_prm.of HLpr.out) ?_)
   | (show wpList _ _ _ _ _ _; refine wpList_midg (by kernel_rfl) 40 _ rfl (w.heap.size + 1) 157 rfl Dpr HSpr1.out (row_prm.of HMpr.out) ?_)
   | (show wpList _ _ _ _ _ _; refine wpList_eqlg (by kernel_rfl) 37 _ _ _ rfl Cak.toArray Cak.toArray rfl rfl true (by kernel_rfl) HQak.out ?_)
   | go_values
   | go_skip
   | go_guarded
   | go_step
   | go_upon
   | go_back)
 refine (promise_eq pr pr' w1 (HX.out.pr.keep HF1.out (by simp)) (HY.out.pr.keep HF1.out (by simp)) HPR.out _ _ HCpr.out.symm HDpr.out.symm).mono ?_
 rintro e_ w2 ⟨rfl, hf2⟩
 have HF2 : Hid (Fr [] w w2) := Lib.hid (HF1.out.and hf2 (by simp))
 have HB02 := Lib.hid (HB01.out.keep hf2 (by simp))
 have HB12 := Lib.hid (HB11.out.keep hf2 (by simp))
 clear hf2 ce1 de1 cr1 dr1 ctm1 dtm1 ge gr gtm HRak1 HSak1 HRpr1 HSpr1 HQak
 go_simp
 have hat2 := Wmg.at_len HB02.out.range HLX.out
 have hau2 := Wmg.at_len HB12.out.range HLY.out
 have HRpo2 : Hid (w2.rangeAt w.heap.size 163 Cpo) := Lib.hid (by rw [HCpo.out]; exact hat2.po)
 have HSpo2 : Hid (w2.rangeAt (w.heap.size + 1) 163 Dpo) := Lib.hid (by rw [HDpo.out]; exact hau2.po)
 clear hat2 hau2
 repeat (first
   | (show wpList _ _ _ _ _ _; refine wpList_midg (by kernel_rfl) 47 _ rfl w.heap.size 163 rfl Cpo HRpo2.out (row_pok.of HLpo.out) ?_)
   | (show wpList _ _ _ _ _ _; refine wpList_midg (by kernel_rfl) 47 _ rfl (w.heap.size + 1) 163 rfl Dpo HSpo2.out (row_pok.of HMpo.out) ?_)
   | go_values
   | go_skip
   | go_guarded
   | go_step
   | go_upon
   | go_back)
 refine (proposal_eq po po' w2 (HX.out.po.keep HF2.out (by simp)) (HY.out.po.keep HF2.out (by simp)) HPO.out _ _ HCpo.out.symm HDpo.out.symm).mono ?_
 rintro e_ w3 ⟨rfl, hf3⟩
 have HF3 : Hid (Fr [] w w3) := Lib.hid (HF2.out.and hf3 (by simp))
 have HB03 := Lib.hid (HB02.out.keep hf3 (by simp))
 have HB13 := Lib.hid (HB12.out.keep hf3 (by simp))
 clear hf3 HRpo2 HSpo2
 go_simp
 have hat3 := Wmg.at_len HB03.out.range HLX.out
 have hau3 := Wmg.at_len HB13.out.range HLY.out
 have ci3 : w3.cell? ⟨w.heap.size, 212, none⟩ = some (.int .i64 (i)) := by have h := hat3.i 0 _ rfl; simpa using h
 have di3 : w3.cell? ⟨w.heap.size + 1, 212, none⟩ = some (.int .i64 (i')) := by have h := hau3.i 0 _ rfl; simpa using h
 have HRvt3 : Hid (w3.rangeAt w.heap.size 174 Cvt) := Lib.hid (by rw [HCvt.out]; exact hat3.vt)
 have HSvt3 : Hid (w3.rangeAt (w.heap.size + 1) 174 Dvt) := Lib.hid (by rw [HDvt.out]; exact hau3.vt)
 have HRen3 : Hid (w3.rangeAt w.heap.size 213 Cen) := Lib.hid (by rw [HCen.out]; exact hat3.en)
 have HSen3 : Hid (w3.rangeAt (w.heap.size + 1) 213 Den) := Lib.hid (by rw [HDen.out]; exact hau3.en)
 have HRop3 : Hid (w3.rangeAt w.heap.size 248 Cop) := Lib.hid (by rw [HCop.out]; exact hat3.op)
 have HSop3 : Hid (w3.rangeAt (w.heap.size + 1) 248 Dop) := Lib.hid (by rw [HDop.out]; exact hau3.op)
 clear hat3 hau3
 have HQvt : Hid ((Op.equalIn 10000 49 (.agg Cvt.toArray) (.agg Dvt.toArray)).run Tryz.prog w3 = .ok (vt.eqB vt') w3) := Lib.hid (by rw [HCvt.out, HDvt.out]; exact eql_Wvt vt vt' HLX.out.vt HLY.out.vt w3)
 have HQen : Hid ((Op.equalIn 10000 51 (.agg Cen.toArray) (.agg Den.toArray)).run Tryz.prog w3 = .ok (en.eqB en') w3) := Lib.hid (by rw [HCen.out, HDen.out]; exact eql_Wen en en' HLX.out.en HLY.out.en w3)
 obtain ⟨bv, hbv⟩ : ∃ bv, bv = vt.eqB vt' := ⟨_, rfl⟩
 rw [← hbv] at HQvt
 have HBV : Hid (bv = true ↔ vt = vt') := Lib.hid (by rw [hbv]; exact Wvt.eqB_iff _ _)
 clear hbv
 obtain ⟨bn, hbn⟩ : ∃ bn, bn = en.eqB en' := ⟨_, rfl⟩
 rw [← hbn] at HQen
 have HBN : Hid (bn = true ↔ en = en') := Lib.hid (by rw [hbn]; exact Wen.eqB_iff _ _)
 clear hbn
 cases bv
 case false =>
  iterate 16 (first
    | (show wpList _ _ _ _ _ _; refine wpList_midg (by kernel_rfl) 49 _ rfl w.heap.size 174 rfl Cvt HRvt3.out (row_vtk.of HLvt.out) ?_)
    | (show wpList _ _ _ _ _ _; refine wpList_midg (by kernel_rfl) 49 _ rfl (w.heap.size + 1) 174 rfl Dvt HSvt3.out (row_vtk.of HMvt.out) ?_)
    | (show wpList _ _ _ _ _ _; refine wpList_midg (by kernel_rfl) 51 _ rfl w.heap.size 213 rfl Cen HRen3.out (row_ent.of HLen.out) ?_)
    | (show wpList _ _ _ _ _ _; refine wpList_midg (by kernel_rfl) 51 _ rfl (w.heap.size + 1) 213 rfl Den HSen3.out (row_ent.of HMen.out) ?_)
    | (show wpList _ _ _ _ _ _; refine wpList_midg (by kernel_rfl) 54 _ rfl w.heap.size 248 rfl Cop HRop3.out (row_opS.of HLop.out) ?_)
    | (show wpList _ _ _ _ _ _; refine wpList_midg (by kernel_rfl) 54 _ rfl (w.heap.size + 1) 248 rfl Dop HSop3.out (row_opS.of HMop.out) ?_)
    | (show wpList _ _ _ _ _ _; refine wpList_eqlg (by kernel_rfl) 49 _ _ _ rfl Cvt.toArray Dvt.toArray rfl rfl false (by kernel_rfl) HQvt.out ?_)
    | (show wpList _ _ _ _ _ _; refine wpList_eqlg (by kernel_rfl) 51 _ _ _ rfl Cen.toArray Den.toArray rfl rfl bn (by kernel_rfl) HQen.out ?_)
    | go_values
    | go_skip
    | go_guarded
    | go_step
    | go_upon
    | go_back)
  refine wpList_false 94 4 _ (by kernel_rfl) rfl rfl (by kernel_rfl) ?_
  intro T hT
  go_wp2
  go_ret
  rw [hT]
  exact KmPost.f (by have h := HBV.out; simp at h; simp [h]) HF3.out
 by_cases hi : i = i'
 case neg =>
  have gi : ((i : Int) == (i' : Int)) = false := by simp; omega
  iterate 30 (first
    | (show wpList _ _ _ _ _ _; refine wpList_midg (by kernel_rfl) 49 _ rfl w.heap.size 174 rfl Cvt HRvt3.out (row_vtk.of HLvt.out) ?_)
    | (show wpList _ _ _ _ _ _; refine wpList_midg (by kernel_rfl) 49 _ rfl (w.heap.size + 1) 174 rfl Dvt HSvt3.out (row_vtk.of HMvt.out) ?_)
    | (show wpList _ _ _ _ _ _; refine wpList_midg (by kernel_rfl) 51 _ rfl w.heap.size 213 rfl Cen HRen3.out (row_ent.of HLen.out) ?_)
    | (show wpList _ _ _ _ _ _; refine wpList_midg (by kernel_rfl) 51 _ rfl (w.heap.size + 1) 213 rfl Den HSen3.out (row_ent.of HMen.out) ?_)
    | (show wpList _ _ _ _ _ _; refine wpList_midg (by kernel_rfl) 54 _ rfl w.heap.size 248 rfl Cop HRop3.out (row_opS.of HLop.out) ?_)
    | (show wpList _ _ _ _ _ _; refine wpList_midg (by kernel_rfl) 54 _ rfl (w.heap.size + 1) 248 rfl Dop HSop3.out (row_opS.of HMop.out) ?_)
    | (show wpList _ _ _ _ _ _; refine wpList_eqlg (by kernel_rfl) 49 _ _ _ rfl Cvt.toArray Dvt.toArray rfl rfl true (by kernel_rfl) HQvt.out ?_)
    | (show wpList _ _ _ _ _ _; refine wpList_eqlg (by kernel_rfl) 51 _ _ _ rfl Cen.toArray Den.toArray rfl rfl bn (by kernel_rfl) HQen.out ?_)
    | go_values
    | go_skip
    | go_guarded
    | go_step
    | go_upon
    | go_back)
  refine wpList_false 101 4 _ (by kernel_rfl) rfl rfl (by kernel_rfl) ?_
  intro T hT
  go_wp2
  go_ret
  rw [hT]
  exact KmPost.f (by simp [hi]) HF3.out
 have gi : ((i : Int) == (i' : Int)) = true := by simp; omega
 cases bn
 case false =>
  iterate 41 (first
    | (show wpList _ _ _ _ _ _; refine wpList_midg (by kernel_rfl) 49 _ rfl w.heap.size 174 rfl Cvt HRvt3.out (row_vtk.of HLvt.out) ?_)
    | (show wpList _ _ _ _ _ _; refine wpList_midg (by kernel_rfl) 49 _ rfl (w.heap.size + 1) 174 rfl Dvt HSvt3.out (row_vtk.of HMvt.out) ?_)
    | (show wpList _ _ _ _ _ _; refine wpList_midg (by kernel_rfl) 51 _ rfl w.heap.size 213 rfl Cen HRen3.out (row_ent.of HLen.out) ?_)
    | (show wpList _ _ _ _ _ _; refine wpList_midg (by kernel_rfl) 51 _ rfl (w.heap.size + 1) 213 rfl Den HSen3.out (row_ent.of HMen.out) ?_)
    | (show wpList _ _ _ _ _ _; refine wpList_midg (by kernel_rfl) 54 _ rfl w.heap.size 248 rfl Cop HRop3.out (row_opS.of HLop.out) ?_)
    | (show wpList _ _ _ _ _ _; refine wpList_midg (by kernel_rfl) 54 _ rfl (w.heap.size + 1) 248 rfl Dop HSop3.out (row_opS.of HMop.out) ?_)
    | (show wpList _ _ _ _ _ _; refine wpList_eqlg (by kernel_rfl) 49 _ _ _ rfl Cvt.toArray Dvt.toArray rfl rfl true (by kernel_rfl) HQvt.out ?_)
    | (show wpList _ _ _ _ _ _; refine wpList_eqlg (by kernel_rfl) 51 _ _ _ rfl Cen.toArray Den.toArray rfl rfl false (by kernel_rfl) HQen.out ?_)
    | go_values
    | go_skip
    | go_guarded
    | go_step
    | go_upon
    | go_back)
  refine wpList_false 108 4 _ (by kernel_rfl) rfl rfl (by kernel_rfl) ?_
  intro T hT
  go_wp2
  go_ret
  rw [hT]
  exact KmPost.f (by have h := HBN.out; simp at h; simp [h]) HF3.out
 repeat (first
   | (show wpList _ _ _ _ _ _; refine wpList_midg (by kernel_rfl) 49 _ rfl w.heap.size 174 rfl Cvt HRvt3.out (row_vtk.of HLvt.out) ?_)
   | (show wpList _ _ _ _ _ _; refine wpList_midg (by kernel_rfl) 49 _ rfl (w.heap.size + 1) 174 rfl Dvt HSvt3.out (row_vtk.of HMvt.out) ?_)
   | (show wpList _ _ _ _ _ _; refine wpList_midg (by kernel_rfl) 51 _ rfl w.heap.size 213 rfl Cen HRen3.out (row_ent.of HLen.out) ?_)
   | (show wpList _ _ _ _ _ _; refine wpList_midg (by kernel_rfl) 51 _ rfl (w.heap.size + 1) 213 rfl Den HSen3.out (row_ent.of HMen.out) ?_)
   | (show wpList _ _ _ _ _ _; refine wpList_midg (by kernel_rfl) 54 _ rfl w.heap.size 248 rfl Cop HRop3.out (row_opS.of HLop.out) ?_)
   | (show wpList _ _ _ _ _ _; refine wpList_midg (by kernel_rfl) 54 _ rfl (w.heap.size + 1) 248 rfl Dop HSop3.out (row_opS.of HMop.out) ?_)
   | (show wpList _ _ _ _ _ _; refine wpList_eqlg (by kernel_rfl) 49 _ _ _ rfl Cvt.toArray Dvt.toArray rfl rfl true (by kernel_rfl) HQvt.out ?_)
   | (show wpList _ _ _ _ _ _; refine wpList_eqlg (by kernel_rfl) 51 _ _ _ rfl Cen.toArray Den.toArray rfl rfl true (by kernel_rfl) HQen.out ?_)
   | go_values
   | go_skip
   | go_guarded
   | go_step
   | go_upon
   | go_back)
 refine (opening_eq op op' w3 (HX.out.op.keep HF3.out (by simp)) (HY.out.op.keep HF3.out (by simp)) HOP.out _ _ HCop.out.symm HDop.out.symm).mono ?_
 rintro e_ w4 ⟨rfl, hf4⟩
 have HF4 : Hid (Fr [] w w4) := Lib.hid (HF3.out.and hf4 (by simp))
 have HB04 := Lib.hid (HB03.out.keep hf4 (by simp))
 have HB14 := Lib.hid (HB13.out.keep hf4 (by simp))
 clear hf4 ci3 di3 gi HRvt3 HSvt3 HRen3 HSen3 HRop3 HSop3 HQvt HQen
 go_simp
 have hvt := HBV.out.1 rfl
 have hen := HBN.out.1 rfl
 obtain ⟨ze, zr, zk, zA, zn, zd, zl⟩ := de
 obtain ⟨ze', zr', zk', zA', zn', zd', zl'⟩ := de'
 have hde := HDE.out
 unfold Wdc.con at hde
 simp only [Cdc.mk.injEq] at hde
 obtain ⟨rfl, rfl, hzk, rfl⟩ := hde
 have hzn : zn' = zn := HY.out.de.l.1.symm.trans HX.out.de.l.1
 subst hzn
 have HZK := Lib.hid hzk
 have HALL : Hid (f = f' ∧ t = t' ∧ e = e' ∧ r = r' ∧ tm = tm' ∧ vt = vt' ∧ i = i' ∧ en = en') := Lib.hid ⟨hf, ht, he, hr, htm, hvt, hi, hen⟩
 clear hzk hf ht he hr htm hvt hi hen
 have hat4 := Wmg.at_len HB04.out.range HLX.out
 have hau4 := Wmg.at_len HB14.out.range HLY.out
 have HRdn4 : Hid (w4.rangeAt w.heap.size 282 Cdn) := Lib.hid (by rw [HCdn.out]; exact hat4.dn)
 have HSdn4 : Hid (w4.rangeAt (w.heap.size + 1) 282 Cdn) := Lib.hid (by rw [HCdn.out]; exact hau4.dn)
 have crp4 : w4.cell? ⟨w.heap.size, 286, none⟩ = some (.string ⟨rp.toArray⟩) := by have h := hat4.rp 0 _ rfl; simpa using h
 have drp4 : w4.cell? ⟨w.heap.size + 1, 286, none⟩ = some (.string ⟨rp.toArray⟩) := by have h := hau4.rp 0 _ rfl; simpa using h
 obtain ⟨z0, z1, z2, z3⟩ := Wdc.at_k hat4.de
 obtain ⟨y0, y1, y2, y3⟩ := Wdc.at_k hau4.de
 simp only [Nat.reduceAdd] at z1 z2 z3 y1 y2 y3
 have HZ2 := Lib.hid z2
 have HY2 := Lib.hid y2
 have HZ3 := Lib.hid z3
 have HY3 := Lib.hid y3
 clear z2 z3 y2 y3
 have HQdn : Hid ((Op.equalIn 10000 56 (.agg Cdn.toArray) (.agg Cdn.toArray)).run Tryz.prog w4 = .ok true w4) := Lib.hid (by rw [HCdn.out]; have h := eql_Wdn dn dn w4; rw [(Wdn.eqB_iff dn dn).2 rfl] at h; exact h)
 have gze : (ze == ze) = true := by simp
 have gzr : (zr == zr) = true := by simp
 obtain ⟨RP, hRP⟩ : ∃ RP : ByteArray, RP = ⟨rp.toArray⟩ := ⟨_, rfl⟩
 rw [← hRP] at crp4 drp4
 clear hat4 hau4 hRP
 repeat (first
   | (show wpList _ _ _ _ _ _; refine wpList_midg (by kernel_rfl) 56 _ rfl w.heap.size 282 rfl Cdn HRdn4.out (row_dnS.of HLdn.out) ?_)
   | (show wpList _ _ _ _ _ _; refine wpList_midg (by kernel_rfl) 56 _ rfl (w.heap.size + 1) 282 rfl Cdn HSdn4.out (row_dnS.of HLdn.out) ?_)
   | (show wpList _ _ _ _ _ _; refine wpList_eqlg (by kernel_rfl) 56 _ _ _ rfl Cdn.toArray Cdn.toArray rfl rfl true (by kernel_rfl) HQdn.out ?_)
   | (show wpList _ _ _ _ _ _; refine wpList_midg (by kernel_rfl) 45 _ rfl w.heap.size 289 rfl zk.cells HZ2.out row_bak ?_)
   | (show wpList _ _ _ _ _ _; refine wpList_midg (by kernel_rfl) 45 _ rfl (w.heap.size + 1) 289 rfl zk'.cells HY2.out row_bak ?_)
   | go_values
   | go_skip
   | go_guarded
   | go_step
   | go_upon
   | go_back)
 refine (batch_eq zk zk' w4 (HX.out.de.k.keep HF4.out (by simp)) (HY.out.de.k.keep HF4.out (by simp)) HZK.out _ _ rfl rfl).mono ?_
 rintro e_ w5 ⟨rfl, hf5⟩
 have HF5 : Hid (Fr [] w w5) := Lib.hid (HF4.out.and hf5 (by simp))
 have HB05 := Lib.hid (HB04.out.keep hf5 (by simp))
 have HB15 := Lib.hid (HB14.out.keep hf5 (by simp))
 have z3 := hf5.cell HZ3.out (by simp)
 have y3 := hf5.cell HY3.out (by simp)
 clear hf5 HRdn4 HSdn4 crp4 drp4 z0 z1 y0 y1 HQdn gze gzr
 go_simp
 go_wp2_with fail
 refine (votes_eq zA zA' zn' zd zd' zl zl w5 (HX.out.de.l.keep' HF5.out (by simp) (fun _ _ h => h)) (HY.out.de.l.keep' HF5.out (by simp) (fun _ _ h => h)) rfl (by have h1 : zn' ≤ 100 := HX.out.de.n; omega)).mono ?_
 rintro e_ w6 ⟨rfl, hf6⟩
 have HF6 : Hid (Fr [] w w6) := Lib.hid (HF5.out.and hf6 (by simp))
 clear hf6 z3 y3
 go_wp2_with fail
 go_ret
 exact KmPost.t HALL.out HF6.out
end Go.Proofs.YtpcnedpheplofaaGreat

namespace Go.Proofs.YtpcnedpheplofaaGreat
open Go.RowKit
set_option maxRecDepth 100000
end Go.Proofs.YtpcnedpheplofaaGreat

namespace Go.Proofs.YtpcnedpheplofaaGreat
open Go.RowKit
set_option maxRecDepth 100000
theorem Wmg.Ok.len {w : World} {S : List Nat} {x : Wmg} (h : x.Ok w S) : x.Len := ⟨h.cm.h, h.st.h, h.ce.k.h, h.ak.h, h.vt.h, h.en.h, h.op.h⟩
theorem Wpo.OkS.li {w : World} {S : List Nat} {x : Wpo} (h : x.OkS w S) : x.Li w S := ⟨h.e, h.r, h.v, h.p, h.k.li, h.b, h.m⟩
theorem Wdc.Ok.li {w : World} {S : List Nat} {x : Wdc} (h : x.Ok w S) : x.Li w S := ⟨h.e, h.r, h.k.li, h.l, Nat.le_trans h.n (by omega), h.ap⟩
theorem Wmg.Ok.li {w : World} {S : List Nat} {x : Wmg} (h : x.Ok w S) : x.Li w S := ⟨h.cm, h.st, h.ce.li, h.ak, h.pr.li, h.po.li, h.vt, h.en, h.op, h.dn, h.de.li⟩
theorem Wdc.In.keep {w w' : World} {x : Wdc} (h : x.In w) (hf : Fr [] w w') : x.In w' := ⟨h.e, h.r, h.k.keep hf, h.l.keep' hf (by simp) (fun _ _ h => h), h.n, h.d⟩
theorem Wpo.In.keepM {w w' : World} {x : Wpo} (h : x.In w) (hf : Fr [] w w') : x.In w' := ⟨h.e, h.r, h.v, h.p, h.k.keep hf, h.b, h.m⟩
theorem Wmg.In.keepM {w w' : World} {x : Wmg} (h : x.In w) (hf : Fr [] w w') : x.In w' :=
 ⟨h.q, h.f, h.t, h.cm, h.st, h.ce.keep hf, h.ak, h.e, h.r, h.tm, h.pr.keep hf, h.po.keepM hf, h.vt, h.i, h.en, h.op.keep hf, h.dn, h.rp, h.de.keep hf⟩
theorem kmsg_con (x y : Wmg) (w : World) (hx : x.Ok w []) (hy : y.Ok w []) (e : x.con = y.con) (C D : List Value) (hC : x.cells = C) (hD : y.cells = D) :
  Calls Tryz.prog 10 #[.agg C.toArray, .agg D.toArray] w fun e w' => e = .returned (.bool true) ∧ Fr [] w w' := by
 unfold Wmg.con at e
 simp only [Cmg.mk.injEq] at e
 obtain ⟨e1, e2, e3, e4, e5, e6, e7, e8, e9, e10, e11, e12, e13, e14, e15, e16, e17, e18, e19⟩ := e
 refine (kmsg_any x y w hx.li hy.li e1 e4 e5 e6 e7 e11 e12 e16 e17 e18 e19 C D hC hD).mono ?_
 rintro r w' ⟨b, rfl, hb, hf⟩
 rw [hb.2 ⟨e2, e3, e8, e9, e10, e13, e14, e15⟩]
 exact ⟨rfl, hf⟩
end Go.Proofs.YtpcnedpheplofaaGreat

namespace Go.Proofs.YtpcnedpheplofaaGreat
open Go.RowKit
set_option maxRecDepth 100000
set_option maxHeartbeats 4000000 in
theorem refsig_any (y z : Int) (hy : i64In y) (hz : i64In z) (w : World) :
  Calls Tryz.prog 35 #[.agg #[.int .i64 y, .int .i64 z]] w fun e w' => ∃ A c, e = .returned (.slice A (sgL y z).length c) ∧ NewB w w' A (sgL y z).length c (sgL y z) := by
 obtain ⟨wa, hwa⟩ : ∃ wa, wa = w.alloc (Obj.cells #[.int .i64 y, .int .i64 z] 27) := ⟨_, rfl⟩
 have hf0 : Fr [] w wa := by rw [hwa]; exact (Fr.refl [] w).alloc _
 have HC0 : Hid (wa.cell? ⟨w.heap.size, 0, none⟩ = some (.int .i64 y)) := Lib.hid (by rw [hwa]; exact (Blk.new _ _ _).cell 0)
 have HC1 : Hid (wa.cell? ⟨w.heap.size, 1, none⟩ = some (.int .i64 z)) := Lib.hid (by rw [hwa]; exact (Blk.new _ _ _).cell 1)
 have HX := Lib.hid (And.intro hy hz)
 clear hy hz
 have HF0 := Lib.hid hf0
 have HWA := Lib.hid hwa
 clear hwa hf0
 go_enter Tryz.func35, Tryz.ntmps35
 go_wp2
 rw [← HWA.out]
 refine wp_region_held_drew (S := Fr [] wa) (by kernel_rfl) (Fr.drew (Fr.refl _ wa)) (fun hHeld => ?_)
 have HFD : Hid (Fr [] wa wa.drew) := Lib.hid (Fr.drew (Fr.refl [] wa))
 generalize wa.drew = wd at *
 refine run_at (i := 0) (v := ?_) rfl (by kernel_rfl) (by rfl) (fun _ _ _ h => h) hHeld (fun w1 hw1 => ?_) ?_
 rotate_left 1
 · skip
   go_simp
   try first | with_reducible rfl | apply And.intro <;> rfl
 simp only [xPa, xPb, xPc, xPd, xPe]
 refine run_at (i := 1) (v := ?_) rfl (by kernel_rfl) (by rfl) (fun _ _ _ h => h) hHeld (fun w1 hw1 => ?_) ?_
 rotate_left 1
 · skip
   have hcw0 := hw1.cell (HC0.out) (by simp)
   go_simp
   try first | with_reducible rfl | apply And.intro <;> rfl
 simp only [xPa, xPb, xPc, xPd, xPe]
 refine run_at (i := 3) (v := ?_) rfl (by kernel_rfl) (by rfl) (fun _ _ _ h => h) hHeld (fun w1 hw1 => ?_) ?_
 rotate_left 1
 · skip
   go_simp
   try first | with_reducible rfl | apply And.intro <;> rfl
 simp only [xPa, xPb, xPc, xPd, xPe]
 refine run_at (i := 4) (v := ?_) rfl (by kernel_rfl) (by rfl) (fun _ _ _ h => h) hHeld (fun w1 hw1 => ?_) ?_
 rotate_left 1
 · skip
   have hcw0 := hw1.cell (HC1.out) (by simp)
   go_simp
   try first | with_reducible rfl | apply And.intro <;> rfl
 simp only [xPa, xPb, xPc, xPd, xPe]
 refine call_at (i := 2) (f := ?_) (args := ?_) rfl (by kernel_rfl) (by rfl) ?_ ?_
 rotate_left 2
 · go_simp
   try first | with_reducible rfl | apply And.intro <;> rfl
 refine (refint_any y HX.out.1.2 wd).mono ?_
 rintro e w2 ⟨A2, c2, rfl, hN⟩
 obtain ⟨n2, hn2⟩ : ∃ nn_, nn_ = (encI y).length := ⟨_, rfl⟩
 obtain ⟨l2, hl2⟩ : ∃ ll_, ll_ = encI y := ⟨_, rfl⟩
 rw [← hn2] at hN ⊢
 rw [← hl2] at hN
 have HB2 : Hid (n2 ≤ 20000) := Lib.hid (by rw [hn2]; have := encI_len y HX.out.1.2; omega)
 have HL2 := Lib.hid hl2
 refine ⟨_, rfl, hHeld.go hN.2.1 (by simp), fun hHeld => ?_⟩
 simp only [xPa, xPb, xPc, xPd, xPe]
 have HY2 := Lib.hid hN.by
 have HFD := Lib.hid (HFD.out.and hN.2.1 (by simp))
 clear hN hn2 hl2
 refine call_at (i := 5) (f := ?_) (args := ?_) rfl (by kernel_rfl) (by rfl) ?_ ?_
 rotate_left 2
 · go_simp
   try first | with_reducible rfl | apply And.intro <;> rfl
 refine (refint_any z HX.out.2.2 w2).mono ?_
 rintro e w5 ⟨A5, c5, rfl, hN⟩
 obtain ⟨n5, hn5⟩ : ∃ nn_, nn_ = (encI z).length := ⟨_, rfl⟩
 obtain ⟨l5, hl5⟩ : ∃ ll_, ll_ = encI z := ⟨_, rfl⟩
 rw [← hn5] at hN ⊢
 rw [← hl5] at hN
 have HB5 : Hid (n5 ≤ 20000) := Lib.hid (by rw [hn5]; have := encI_len z HX.out.2.2; omega)
 have HL5 := Lib.hid hl5
 refine ⟨_, rfl, hHeld.go hN.2.1 (by simp), fun hHeld => ?_⟩
 simp only [xPa, xPb, xPc, xPd, xPe]
 have HY5 := Lib.hid hN.by
 have HFD := Lib.hid (HFD.out.and hN.2.1 (by simp))
 have HY2 := Lib.hid (Fr.byk hN.2.1 HY2.out)
 clear hN hn5 hl5
 refine step_at (i := 6) rfl (by kernel_rfl) (by rfl) (fun K hK => ?_)
 refine wp_run (v := ?_) (w' := ?_) ?_ ?_
 rotate_left 2
 · go_simp
   try first | with_reducible rfl | apply And.intro <;> rfl
 refine hK.out _ (w5.alloc (Obj.cells #[.slice A2 n2 c2, .slice A5 n5 c5] 52)) (hHeld.alloc _) (fun hHeld => ?_)
 clear hK K
 simp only [xPa, xPb, xPc, xPd, xPe]
 have hfb : Fr [] w5 (w5.alloc (Obj.cells #[.slice A2 n2 c2, .slice A5 n5 c5] 52)) := (Fr.refl [] w5).alloc _
 have hbb : Blk (w5.alloc (Obj.cells #[.slice A2 n2 c2, .slice A5 n5 c5] 52)) w5.heap.size 52 (([⟨A2, n2, c2, l2⟩, ⟨A5, n5, c5, l5⟩] : List RowV).map RowV.val).toArray := Blk.new _ _ _
 generalize w5.alloc (Obj.cells #[.slice A2 n2 c2, .slice A5 n5 c5] 52) = wj at *
 have HFD := Lib.hid (HFD.out.and hfb (by simp))
 have hj := join_big w5.heap.size 2 [⟨A2, n2, c2, l2⟩, ⟨A5, n5, c5, l5⟩] wj hbb rfl (by omega) (by
  intro r hr
  simp only [List.mem_cons, List.not_mem_nil, or_false] at hr
  rcases hr with rfl | rfl
  · exact ⟨Fr.byk hfb HY2.out, HB2.out⟩
  · exact ⟨Fr.byk hfb HY5.out, HB5.out⟩)
 have hJ : joinL [⟨A2, n2, c2, l2⟩, ⟨A5, n5, c5, l5⟩] = sgL y z := by
  simp only [joinL, List.map_cons, List.map_nil, List.flatten_cons, List.flatten_nil, HL2.out, HL5.out]
  simp [sgL]
 rw [hJ] at hj
 obtain ⟨X, hX⟩ : ∃ X, X = sgL y z := ⟨_, rfl⟩
 rw [← hX] at hj
 have HXT := Lib.hid hX
 clear hX
 have HJ := Lib.hid hj
 clear hfb hbb hj hJ HY2 HL2 HY5 HL5
 refine call_at (i := 7) (f := ?_) (args := ?_) rfl (by kernel_rfl) (by rfl) ?_ ?_
 rotate_left 2
 · go_simp
   try first | with_reducible rfl | apply And.intro <;> rfl
 refine HJ.out.mono ?_
 rintro e wk ⟨Aj, cj, rfl, hN⟩
 have HN := Lib.hid (hN.from2 (HF0.out.and HFD.out (by simp)))
 refine ⟨_, rfl, hHeld.go hN.2.1 (by simp), fun hHeld => ?_⟩
 clear hN
 simp only [xPa, xPb, xPc, xPd, xPe]
 refine run_at (i := 8) (v := ?_) rfl (by kernel_rfl) (by rfl) (fun _ _ _ h => h) hHeld (fun w1 hw1 => ?_) ?_
 rotate_left 1
 · skip
   go_simp
   try first | with_reducible rfl | apply And.intro <;> rfl
 simp only [xPa, xPb, xPc, xPd, xPe]
 refine wpAnyH_done (by kernel_rfl) ?_ _
 go_wp2
 go_ret
 rw [← HXT.out]
 exact ⟨Aj, cj, rfl, HN.out⟩
set_option maxHeartbeats 4000000 in
theorem refname_any (y z : Int) (hy : i64In y) (hz : i64In z) (w : World) :
  Calls Tryz.prog 40 #[.agg #[.int .i64 y, .int .i64 z]] w fun e w' => ∃ A c, e = .returned (.slice A (nmL y z).length c) ∧ NewB w w' A (nmL y z).length c (nmL y z) := by
 obtain ⟨wa, hwa⟩ : ∃ wa, wa = w.alloc (Obj.cells #[.int .i64 y, .int .i64 z] 23) := ⟨_, rfl⟩
 have hf0 : Fr [] w wa := by rw [hwa]; exact (Fr.refl [] w).alloc _
 have HC0 : Hid (wa.cell? ⟨w.heap.size, 0, none⟩ = some (.int .i64 y)) := Lib.hid (by rw [hwa]; exact (Blk.new _ _ _).cell 0)
 have HC1 : Hid (wa.cell? ⟨w.heap.size, 1, none⟩ = some (.int .i64 z)) := Lib.hid (by rw [hwa]; exact (Blk.new _ _ _).cell 1)
 have HX := Lib.hid (And.intro hy hz)
 clear hy hz
 have HF0 := Lib.hid hf0
 have HWA := Lib.hid hwa
 clear hwa hf0
 go_enter Tryz.func40, Tryz.ntmps40
 go_wp2
 rw [← HWA.out]
 refine wp_region_held_drew (S := Fr [] wa) (by kernel_rfl) (Fr.drew (Fr.refl _ wa)) (fun hHeld => ?_)
 have HFD : Hid (Fr [] wa wa.drew) := Lib.hid (Fr.drew (Fr.refl [] wa))
 generalize wa.drew = wd at *
 refine run_at (i := 0) (v := ?_) rfl (by kernel_rfl) (by rfl) (fun _ _ _ h => h) hHeld (fun w1 hw1 => ?_) ?_
 rotate_left 1
 · skip
   go_simp
   try first | with_reducible rfl | apply And.intro <;> rfl
 simp only [xPa, xPb, xPc, xPd, xPe]
 refine run_at (i := 1) (v := ?_) rfl (by kernel_rfl) (by rfl) (fun _ _ _ h => h) hHeld (fun w1 hw1 => ?_) ?_
 rotate_left 1
 · skip
   have hcw0 := hw1.cell (HC0.out) (by simp)
   go_simp
   try first | with_reducible rfl | apply And.intro <;> rfl
 simp only [xPa, xPb, xPc, xPd, xPe]
 refine run_at (i := 3) (v := ?_) rfl (by kernel_rfl) (by rfl) (fun _ _ _ h => h) hHeld (fun w1 hw1 => ?_) ?_
 rotate_left 1
 · skip
   go_simp
   try first | with_reducible rfl | apply And.intro <;> rfl
 simp only [xPa, xPb, xPc, xPd, xPe]
 refine run_at (i := 4) (v := ?_) rfl (by kernel_rfl) (by rfl) (fun _ _ _ h => h) hHeld (fun w1 hw1 => ?_) ?_
 rotate_left 1
 · skip
   have hcw0 := hw1.cell (HC1.out) (by simp)
   go_simp
   try first | with_reducible rfl | apply And.intro <;> rfl
 simp only [xPa, xPb, xPc, xPd, xPe]
 refine call_at (i := 2) (f := ?_) (args := ?_) rfl (by kernel_rfl) (by rfl) ?_ ?_
 rotate_left 2
 · go_simp
   try first | with_reducible rfl | apply And.intro <;> rfl
 refine (refint_any y HX.out.1.2 wd).mono ?_
 rintro e w2 ⟨A2, c2, rfl, hN⟩
 obtain ⟨n2, hn2⟩ : ∃ nn_, nn_ = (encI y).length := ⟨_, rfl⟩
 obtain ⟨l2, hl2⟩ : ∃ ll_, ll_ = encI y := ⟨_, rfl⟩
 rw [← hn2] at hN ⊢
 rw [← hl2] at hN
 have HB2 : Hid (n2 ≤ 20000) := Lib.hid (by rw [hn2]; have := encI_len y HX.out.1.2; omega)
 have HL2 := Lib.hid hl2
 refine ⟨_, rfl, hHeld.go hN.2.1 (by simp), fun hHeld => ?_⟩
 simp only [xPa, xPb, xPc, xPd, xPe]
 have HY2 := Lib.hid hN.by
 have HFD := Lib.hid (HFD.out.and hN.2.1 (by simp))
 clear hN hn2 hl2
 refine call_at (i := 5) (f := ?_) (args := ?_) rfl (by kernel_rfl) (by rfl) ?_ ?_
 rotate_left 2
 · go_simp
   try first | with_reducible rfl | apply And.intro <;> rfl
 refine (refint_any z HX.out.2.2 w2).mono ?_
 rintro e w5 ⟨A5, c5, rfl, hN⟩
 obtain ⟨n5, hn5⟩ : ∃ nn_, nn_ = (encI z).length := ⟨_, rfl⟩
 obtain ⟨l5, hl5⟩ : ∃ ll_, ll_ = encI z := ⟨_, rfl⟩
 rw [← hn5] at hN ⊢
 rw [← hl5] at hN
 have HB5 : Hid (n5 ≤ 20000) := Lib.hid (by rw [hn5]; have := encI_len z HX.out.2.2; omega)
 have HL5 := Lib.hid hl5
 refine ⟨_, rfl, hHeld.go hN.2.1 (by simp), fun hHeld => ?_⟩
 simp only [xPa, xPb, xPc, xPd, xPe]
 have HY5 := Lib.hid hN.by
 have HFD := Lib.hid (HFD.out.and hN.2.1 (by simp))
 have HY2 := Lib.hid (Fr.byk hN.2.1 HY2.out)
 clear hN hn5 hl5
 refine step_at (i := 6) rfl (by kernel_rfl) (by rfl) (fun K hK => ?_)
 refine wp_run (v := ?_) (w' := ?_) ?_ ?_
 rotate_left 2
 · go_simp
   try first | with_reducible rfl | apply And.intro <;> rfl
 refine hK.out _ (w5.alloc (Obj.cells #[.slice A2 n2 c2, .slice A5 n5 c5] 52)) (hHeld.alloc _) (fun hHeld => ?_)
 clear hK K
 simp only [xPa, xPb, xPc, xPd, xPe]
 have hfb : Fr [] w5 (w5.alloc (Obj.cells #[.slice A2 n2 c2, .slice A5 n5 c5] 52)) := (Fr.refl [] w5).alloc _
 have hbb : Blk (w5.alloc (Obj.cells #[.slice A2 n2 c2, .slice A5 n5 c5] 52)) w5.heap.size 52 (([⟨A2, n2, c2, l2⟩, ⟨A5, n5, c5, l5⟩] : List RowV).map RowV.val).toArray := Blk.new _ _ _
 generalize w5.alloc (Obj.cells #[.slice A2 n2 c2, .slice A5 n5 c5] 52) = wj at *
 have HFD := Lib.hid (HFD.out.and hfb (by simp))
 have hj := join_big w5.heap.size 2 [⟨A2, n2, c2, l2⟩, ⟨A5, n5, c5, l5⟩] wj hbb rfl (by omega) (by
  intro r hr
  simp only [List.mem_cons, List.not_mem_nil, or_false] at hr
  rcases hr with rfl | rfl
  · exact ⟨Fr.byk hfb HY2.out, HB2.out⟩
  · exact ⟨Fr.byk hfb HY5.out, HB5.out⟩)
 have hJ : joinL [⟨A2, n2, c2, l2⟩, ⟨A5, n5, c5, l5⟩] = nmL y z := by
  simp only [joinL, List.map_cons, List.map_nil, List.flatten_cons, List.flatten_nil, HL2.out, HL5.out]
  simp [nmL]
 rw [hJ] at hj
 obtain ⟨X, hX⟩ : ∃ X, X = nmL y z := ⟨_, rfl⟩
 rw [← hX] at hj
 have HXT := Lib.hid hX
 clear hX
 have HJ := Lib.hid hj
 clear hfb hbb hj hJ HY2 HL2 HY5 HL5
 refine call_at (i := 7) (f := ?_) (args := ?_) rfl (by kernel_rfl) (by rfl) ?_ ?_
 rotate_left 2
 · go_simp
   try first | with_reducible rfl | apply And.intro <;> rfl
 refine HJ.out.mono ?_
 rintro e wk ⟨Aj, cj, rfl, hN⟩
 have HN := Lib.hid (hN.from2 (HF0.out.and HFD.out (by simp)))
 refine ⟨_, rfl, hHeld.go hN.2.1 (by simp), fun hHeld => ?_⟩
 clear hN
 simp only [xPa, xPb, xPc, xPd, xPe]
 refine run_at (i := 8) (v := ?_) rfl (by kernel_rfl) (by rfl) (fun _ _ _ h => h) hHeld (fun w1 hw1 => ?_) ?_
 rotate_left 1
 · skip
   go_simp
   try first | with_reducible rfl | apply And.intro <;> rfl
 simp only [xPa, xPb, xPc, xPd, xPe]
 refine wpAnyH_done (by kernel_rfl) ?_ _
 go_wp2
 go_ret
 rw [← HXT.out]
 exact ⟨Aj, cj, rfl, HN.out⟩
set_option maxHeartbeats 4000000 in
theorem refputCommit_any (x : Wcm) (hx : x.Ok) (C : List Value) (hC : x.cells = C) (w : World) :
  Calls Tryz.prog 31 #[.agg C.toArray] w fun e w' => ∃ A c, e = .returned (.slice A (x.full).length c) ∧ NewB w w' A (x.full).length c (x.full) := by
 obtain ⟨wa, hwa⟩ : ∃ wa, wa = w.alloc (Obj.cells C.toArray 29) := ⟨_, rfl⟩
 have hf0 : Fr [] w wa := by rw [hwa]; exact (Fr.refl [] w).alloc _
 have hb0 : Blk wa w.heap.size 29 x.cells.toArray := by rw [hwa, hC]; exact Blk.new _ _ _
 have HALL : Hid (wa.rangeAt w.heap.size 0 C) := Lib.hid (by rw [← hC]; exact hb0.range)
 have HLN : Hid (C.length = 37) := Lib.hid (by rw [← hC]; exact Wcm.len hx.h)
 have hat := Wcm.at_of (o := 0) hb0.range hx.h
 have HAT := Lib.hid hat
 have HYH : Hid (By wa (some ⟨w.heap.size, 2, none⟩) 32 x.h) := Lib.hid (by have h := By.of_range hat.hash; rw [hx.h] at h; exact h)
 have HX := Lib.hid hx
 have HRC := Lib.hid hC
 clear hb0 hx hC hat
 have HF0 := Lib.hid hf0
 have HWA := Lib.hid hwa
 clear hwa hf0
 go_enter Tryz.func31, Tryz.ntmps31
 go_wp2
 rw [← HWA.out]
 refine wp_region_held_drew (S := Fr [] wa) (by kernel_rfl) (Fr.drew (Fr.refl _ wa)) (fun hHeld => ?_)
 have HFD : Hid (Fr [] wa wa.drew) := Lib.hid (Fr.drew (Fr.refl [] wa))
 generalize wa.drew = wd at *
 refine run_at (i := 0) (v := ?_) rfl (by kernel_rfl) (by rfl) (fun _ _ _ h => h) hHeld (fun w1 hw1 => ?_) ?_
 rotate_left 1
 · skip
   go_simp
   try first | with_reducible rfl | apply And.intro <;> rfl
 simp only [xPa, xPb, xPc, xPd, xPe]
 refine row_at (i := 1) rfl (by kernel_rfl) (by rfl) _ _ rfl _ _ rfl _ (fun w1 hw1 => hw1.range (HAT.out.name) (by simp)) (row_name) (fun _ _ _ h => h) hHeld ?_
 simp only [xPa, xPb, xPc, xPd, xPe]
 refine run_at (i := 3) (v := ?_) rfl (by kernel_rfl) (by rfl) (fun _ _ _ h => h) hHeld (fun w1 hw1 => ?_) ?_
 rotate_left 1
 · skip
   go_simp
   try first | with_reducible rfl | apply And.intro <;> rfl
 simp only [xPa, xPb, xPc, xPd, xPe]
 refine run_at (i := 4) (v := ?_) rfl (by kernel_rfl) (by rfl) (fun _ _ _ h => h) hHeld (fun w1 hw1 => ?_) ?_
 rotate_left 1
 · skip
   go_simp
   try first | with_reducible rfl | apply And.intro <;> rfl
 simp only [xPa, xPb, xPc, xPd, xPe]
 refine run_at (i := 5) (v := ?_) rfl (by kernel_rfl) (by rfl) (fun _ _ _ h => h) hHeld (fun w1 hw1 => ?_) ?_
 rotate_left 1
 · skip
   go_simp
   try first | with_reducible rfl | apply And.intro <;> rfl
 simp only [xPa, xPb, xPc, xPd, xPe]
 refine run_at (i := 6) (v := ?_) rfl (by kernel_rfl) (by rfl) (fun _ _ _ h => h) hHeld (fun w1 hw1 => ?_) ?_
 rotate_left 1
 · skip
   have hcw0 := hw1.cell (HAT.out.n) (by simp)
   go_simp
   try first | with_reducible rfl | apply And.intro <;> rfl
 simp only [xPa, xPb, xPc, xPd, xPe]
 refine run_at (i := 8) (v := ?_) rfl (by kernel_rfl) (by rfl) (fun _ _ _ h => h) hHeld (fun w1 hw1 => ?_) ?_
 rotate_left 1
 · skip
   go_simp
   try first | with_reducible rfl | apply And.intro <;> rfl
 simp only [xPa, xPb, xPc, xPd, xPe]
 refine row_at (i := 9) rfl (by kernel_rfl) (by rfl) _ _ rfl _ _ rfl _ (fun w1 hw1 => hw1.range (HAT.out.sig) (by simp)) (row_sig) (fun _ _ _ h => h) hHeld ?_
 simp only [xPa, xPb, xPc, xPd, xPe]
 refine call_at (i := 2) (f := ?_) (args := ?_) rfl (by kernel_rfl) (by rfl) ?_ ?_
 rotate_left 2
 · go_simp
   try first | with_reducible rfl | apply And.intro <;> rfl
 refine (refname_any x.c x.s HX.out.c HX.out.s wd).mono ?_
 rintro e w2 ⟨A2, c2, rfl, hN⟩
 obtain ⟨n2, hn2⟩ : ∃ nn_, nn_ = (nmL x.c x.s).length := ⟨_, rfl⟩
 obtain ⟨l2, hl2⟩ : ∃ ll_, ll_ = nmL x.c x.s := ⟨_, rfl⟩
 rw [← hn2] at hN ⊢
 rw [← hl2] at hN
 have HB2 : Hid (n2 ≤ 20000) := Lib.hid (by rw [hn2]; have := encI_len x.c HX.out.c.2; have := encI_len x.s HX.out.s.2; simp only [nmL, List.length_append]; omega)
 have HL2 := Lib.hid hl2
 refine ⟨_, rfl, hHeld.go hN.2.1 (by simp), fun hHeld => ?_⟩
 simp only [xPa, xPb, xPc, xPd, xPe]
 have HY2 := Lib.hid hN.by
 have HFD := Lib.hid (HFD.out.and hN.2.1 (by simp))
 clear hN hn2 hl2
 refine call_at (i := 7) (f := ?_) (args := ?_) rfl (by kernel_rfl) (by rfl) ?_ ?_
 rotate_left 2
 · go_simp
   try first | with_reducible rfl | apply And.intro <;> rfl
 refine (refint_any x.n HX.out.n.2 w2).mono ?_
 rintro e w7 ⟨A7, c7, rfl, hN⟩
 obtain ⟨n7, hn7⟩ : ∃ nn_, nn_ = (encI x.n).length := ⟨_, rfl⟩
 obtain ⟨l7, hl7⟩ : ∃ ll_, ll_ = encI x.n := ⟨_, rfl⟩
 rw [← hn7] at hN ⊢
 rw [← hl7] at hN
 have HB7 : Hid (n7 ≤ 20000) := Lib.hid (by rw [hn7]; have := encI_len x.n HX.out.n.2; omega)
 have HL7 := Lib.hid hl7
 refine ⟨_, rfl, hHeld.go hN.2.1 (by simp), fun hHeld => ?_⟩
 simp only [xPa, xPb, xPc, xPd, xPe]
 have HY7 := Lib.hid hN.by
 have HFD := Lib.hid (HFD.out.and hN.2.1 (by simp))
 have HY2 := Lib.hid (Fr.byk hN.2.1 HY2.out)
 clear hN hn7 hl7
 refine call_at (i := 10) (f := ?_) (args := ?_) rfl (by kernel_rfl) (by rfl) ?_ ?_
 rotate_left 2
 · go_simp
   try first | with_reducible rfl | apply And.intro <;> rfl
 refine (refsig_any x.b x.m HX.out.b HX.out.m w7).mono ?_
 rintro e w10 ⟨A10, c10, rfl, hN⟩
 obtain ⟨n10, hn10⟩ : ∃ nn_, nn_ = (sgL x.b x.m).length := ⟨_, rfl⟩
 obtain ⟨l10, hl10⟩ : ∃ ll_, ll_ = sgL x.b x.m := ⟨_, rfl⟩
 rw [← hn10] at hN ⊢
 rw [← hl10] at hN
 have HB10 : Hid (n10 ≤ 20000) := Lib.hid (by rw [hn10]; have := encI_len x.b HX.out.b.2; have := encI_len x.m HX.out.m.2; simp only [sgL, List.length_append]; omega)
 have HL10 := Lib.hid hl10
 refine ⟨_, rfl, hHeld.go hN.2.1 (by simp), fun hHeld => ?_⟩
 simp only [xPa, xPb, xPc, xPd, xPe]
 have HY10 := Lib.hid hN.by
 have HFD := Lib.hid (HFD.out.and hN.2.1 (by simp))
 have HY2 := Lib.hid (Fr.byk hN.2.1 HY2.out)
 have HY7 := Lib.hid (Fr.byk hN.2.1 HY7.out)
 clear hN hn10 hl10
 refine step_at (i := 11) rfl (by kernel_rfl) (by rfl) (fun K hK => ?_)
 refine wp_run (v := ?_) (w' := ?_) ?_ ?_
 rotate_left 2
 · go_simp
   try first | with_reducible rfl | apply And.intro <;> rfl
 refine hK.out _ (w10.alloc (Obj.cells #[.slice A2 n2 c2, .slice (some ⟨w.heap.size, 2, none⟩) 32 32, .slice A7 n7 c7, .slice A10 n10 c10] 52)) (hHeld.alloc _) (fun hHeld => ?_)
 clear hK K
 simp only [xPa, xPb, xPc, xPd, xPe]
 have hfb : Fr [] w10 (w10.alloc (Obj.cells #[.slice A2 n2 c2, .slice (some ⟨w.heap.size, 2, none⟩) 32 32, .slice A7 n7 c7, .slice A10 n10 c10] 52)) := (Fr.refl [] w10).alloc _
 have hbb : Blk (w10.alloc (Obj.cells #[.slice A2 n2 c2, .slice (some ⟨w.heap.size, 2, none⟩) 32 32, .slice A7 n7 c7, .slice A10 n10 c10] 52)) w10.heap.size 52 (([⟨A2, n2, c2, l2⟩, ⟨some ⟨w.heap.size, 2, none⟩, 32, 32, x.h⟩, ⟨A7, n7, c7, l7⟩, ⟨A10, n10, c10, l10⟩] : List RowV).map RowV.val).toArray := Blk.new _ _ _
 generalize w10.alloc (Obj.cells #[.slice A2 n2 c2, .slice (some ⟨w.heap.size, 2, none⟩) 32 32, .slice A7 n7 c7, .slice A10 n10 c10] 52) = wj at *
 have HFD := Lib.hid (HFD.out.and hfb (by simp))
 have hj := join_big w10.heap.size 4 [⟨A2, n2, c2, l2⟩, ⟨some ⟨w.heap.size, 2, none⟩, 32, 32, x.h⟩, ⟨A7, n7, c7, l7⟩, ⟨A10, n10, c10, l10⟩] wj hbb rfl (by omega) (by
  intro r hr
  simp only [List.mem_cons, List.not_mem_nil, or_false] at hr
  rcases hr with rfl | rfl | rfl | rfl
  · exact ⟨Fr.byk hfb HY2.out, HB2.out⟩
  · exact ⟨Fr.byk HFD.out HYH.out, by show 32 ≤ 20000; omega⟩
  · exact ⟨Fr.byk hfb HY7.out, HB7.out⟩
  · exact ⟨Fr.byk hfb HY10.out, HB10.out⟩)
 have hJ : joinL [⟨A2, n2, c2, l2⟩, ⟨some ⟨w.heap.size, 2, none⟩, 32, 32, x.h⟩, ⟨A7, n7, c7, l7⟩, ⟨A10, n10, c10, l10⟩] = x.full := by
  simp only [joinL, List.map_cons, List.map_nil, List.flatten_cons, List.flatten_nil, HL2.out, HL7.out, HL10.out]
  simp [Wcm.full]
 rw [hJ] at hj
 obtain ⟨X, hX⟩ : ∃ X, X = x.full := ⟨_, rfl⟩
 rw [← hX] at hj
 have HXT := Lib.hid hX
 clear hX
 have HJ := Lib.hid hj
 clear hfb hbb hj hJ HY2 HL2 HY7 HL7 HY10 HL10
 refine call_at (i := 12) (f := ?_) (args := ?_) rfl (by kernel_rfl) (by rfl) ?_ ?_
 rotate_left 2
 · go_simp
   try first | with_reducible rfl | apply And.intro <;> rfl
 refine HJ.out.mono ?_
 rintro e wk ⟨Aj, cj, rfl, hN⟩
 have HN := Lib.hid (hN.from2 (HF0.out.and HFD.out (by simp)))
 refine ⟨_, rfl, hHeld.go hN.2.1 (by simp), fun hHeld => ?_⟩
 clear hN
 simp only [xPa, xPb, xPc, xPd, xPe]
 refine run_at (i := 13) (v := ?_) rfl (by kernel_rfl) (by rfl) (fun _ _ _ h => h) hHeld (fun w1 hw1 => ?_) ?_
 rotate_left 1
 · skip
   go_simp
   try first | with_reducible rfl | apply And.intro <;> rfl
 simp only [xPa, xPb, xPc, xPd, xPe]
 refine wpAnyH_done (by kernel_rfl) ?_ _
 go_wp2
 go_ret
 rw [← HXT.out]
 exact ⟨Aj, cj, rfl, HN.out⟩
set_option maxHeartbeats 4000000 in
theorem refbare_any (x : Wst) (hx : x.Ok) (C : List Value) (hC : x.cells = C) (w : World) :
  Calls Tryz.prog 91 #[.agg C.toArray] w fun e w' => ∃ A c, e = .returned (.slice A (x.bare).length c) ∧ NewB w w' A (x.bare).length c (x.bare) := by
 obtain ⟨wa, hwa⟩ : ∃ wa, wa = w.alloc (Obj.cells C.toArray 32) := ⟨_, rfl⟩
 have hf0 : Fr [] w wa := by rw [hwa]; exact (Fr.refl [] w).alloc _
 have hb0 : Blk wa w.heap.size 32 x.cells.toArray := by rw [hwa, hC]; exact Blk.new _ _ _
 have HALL : Hid (wa.rangeAt w.heap.size 0 C) := Lib.hid (by rw [← hC]; exact hb0.range)
 have HLN : Hid (C.length = 38) := Lib.hid (by rw [← hC]; exact Wst.len hx.h)
 have hat := Wst.at_of (o := 0) hb0.range hx.h
 have HAT := Lib.hid hat
 have HYH : Hid (By wa (some ⟨w.heap.size, 3, none⟩) 32 x.h) := Lib.hid (by have h := By.of_range hat.hash; rw [hx.h] at h; exact h)
 have HX := Lib.hid hx
 have HRC := Lib.hid hC
 clear hb0 hx hC hat
 have HF0 := Lib.hid hf0
 have HWA := Lib.hid hwa
 clear hwa hf0
 go_enter Tryz.func91, Tryz.ntmps91
 go_wp2
 rw [← HWA.out]
 refine wp_region_held_drew (S := Fr [] wa) (by kernel_rfl) (Fr.drew (Fr.refl _ wa)) (fun hHeld => ?_)
 have HFD : Hid (Fr [] wa wa.drew) := Lib.hid (Fr.drew (Fr.refl [] wa))
 generalize wa.drew = wd at *
 refine run_at (i := 0) (v := ?_) rfl (by kernel_rfl) (by rfl) (fun _ _ _ h => h) hHeld (fun w1 hw1 => ?_) ?_
 rotate_left 1
 · skip
   go_simp
   try first | with_reducible rfl | apply And.intro <;> rfl
 simp only [xPa, xPb, xPc, xPd, xPe]
 refine run_at (i := 1) (v := ?_) rfl (by kernel_rfl) (by rfl) (fun _ _ _ h => h) hHeld (fun w1 hw1 => ?_) ?_
 rotate_left 1
 · skip
   have hcw0 := hw1.cell (HAT.out.r) (by simp)
   go_simp
   try first | with_reducible rfl | apply And.intro <;> rfl
 simp only [xPa, xPb, xPc, xPd, xPe]
 refine run_at (i := 3) (v := ?_) rfl (by kernel_rfl) (by rfl) (fun _ _ _ h => h) hHeld (fun w1 hw1 => ?_) ?_
 rotate_left 1
 · skip
   go_simp
   try first | with_reducible rfl | apply And.intro <;> rfl
 simp only [xPa, xPb, xPc, xPd, xPe]
 refine row_at (i := 4) rfl (by kernel_rfl) (by rfl) _ _ rfl _ _ rfl _ (fun w1 hw1 => hw1.range (HAT.out.name) (by simp)) (row_name) (fun _ _ _ h => h) hHeld ?_
 simp only [xPa, xPb, xPc, xPd, xPe]
 refine run_at (i := 6) (v := ?_) rfl (by kernel_rfl) (by rfl) (fun _ _ _ h => h) hHeld (fun w1 hw1 => ?_) ?_
 rotate_left 1
 · skip
   go_simp
   try first | with_reducible rfl | apply And.intro <;> rfl
 simp only [xPa, xPb, xPc, xPd, xPe]
 refine run_at (i := 7) (v := ?_) rfl (by kernel_rfl) (by rfl) (fun _ _ _ h => h) hHeld (fun w1 hw1 => ?_) ?_
 rotate_left 1
 · skip
   go_simp
   try first | with_reducible rfl | apply And.intro <;> rfl
 simp only [xPa, xPb, xPc, xPd, xPe]
 refine run_at (i := 8) (v := ?_) rfl (by kernel_rfl) (by rfl) (fun _ _ _ h => h) hHeld (fun w1 hw1 => ?_) ?_
 rotate_left 1
 · skip
   go_simp
   try first | with_reducible rfl | apply And.intro <;> rfl
 simp only [xPa, xPb, xPc, xPd, xPe]
 refine run_at (i := 9) (v := ?_) rfl (by kernel_rfl) (by rfl) (fun _ _ _ h => h) hHeld (fun w1 hw1 => ?_) ?_
 rotate_left 1
 · skip
   have hcw0 := hw1.cell (HAT.out.t) (by simp)
   go_simp
   try first | with_reducible rfl | apply And.intro <;> rfl
 simp only [xPa, xPb, xPc, xPd, xPe]
 refine call_at (i := 2) (f := ?_) (args := ?_) rfl (by kernel_rfl) (by rfl) ?_ ?_
 rotate_left 2
 · go_simp
   try first | with_reducible rfl | apply And.intro <;> rfl
 refine (refint_any x.r HX.out.r.2 wd).mono ?_
 rintro e w2 ⟨A2, c2, rfl, hN⟩
 obtain ⟨n2, hn2⟩ : ∃ nn_, nn_ = (encI x.r).length := ⟨_, rfl⟩
 obtain ⟨l2, hl2⟩ : ∃ ll_, ll_ = encI x.r := ⟨_, rfl⟩
 rw [← hn2] at hN ⊢
 rw [← hl2] at hN
 have HB2 : Hid (n2 ≤ 20000) := Lib.hid (by rw [hn2]; have := encI_len x.r HX.out.r.2; omega)
 have HL2 := Lib.hid hl2
 refine ⟨_, rfl, hHeld.go hN.2.1 (by simp), fun hHeld => ?_⟩
 simp only [xPa, xPb, xPc, xPd, xPe]
 have HY2 := Lib.hid hN.by
 have HFD := Lib.hid (HFD.out.and hN.2.1 (by simp))
 clear hN hn2 hl2
 refine call_at (i := 5) (f := ?_) (args := ?_) rfl (by kernel_rfl) (by rfl) ?_ ?_
 rotate_left 2
 · go_simp
   try first | with_reducible rfl | apply And.intro <;> rfl
 refine (refname_any x.c x.s HX.out.c HX.out.s w2).mono ?_
 rintro e w5 ⟨A5, c5, rfl, hN⟩
 obtain ⟨n5, hn5⟩ : ∃ nn_, nn_ = (nmL x.c x.s).length := ⟨_, rfl⟩
 obtain ⟨l5, hl5⟩ : ∃ ll_, ll_ = nmL x.c x.s := ⟨_, rfl⟩
 rw [← hn5] at hN ⊢
 rw [← hl5] at hN
 have HB5 : Hid (n5 ≤ 20000) := Lib.hid (by rw [hn5]; have := encI_len x.c HX.out.c.2; have := encI_len x.s HX.out.s.2; simp only [nmL, List.length_append]; omega)
 have HL5 := Lib.hid hl5
 refine ⟨_, rfl, hHeld.go hN.2.1 (by simp), fun hHeld => ?_⟩
 simp only [xPa, xPb, xPc, xPd, xPe]
 have HY5 := Lib.hid hN.by
 have HFD := Lib.hid (HFD.out.and hN.2.1 (by simp))
 have HY2 := Lib.hid (Fr.byk hN.2.1 HY2.out)
 clear hN hn5 hl5
 refine call_at (i := 10) (f := ?_) (args := ?_) rfl (by kernel_rfl) (by rfl) ?_ ?_
 rotate_left 2
 · go_simp
   try first | with_reducible rfl | apply And.intro <;> rfl
 refine (refnum_any x.t HX.out.t w5).mono ?_
 rintro e w10 ⟨A10, c10, rfl, hN⟩
 obtain ⟨n10, hn10⟩ : ∃ nn_, nn_ = (enc x.t).length := ⟨_, rfl⟩
 obtain ⟨l10, hl10⟩ : ∃ ll_, ll_ = enc x.t := ⟨_, rfl⟩
 rw [← hn10] at hN ⊢
 rw [← hl10] at hN
 have HB10 : Hid (n10 ≤ 20000) := Lib.hid (by rw [hn10]; have := enc_ten HX.out.t; omega)
 have HL10 := Lib.hid hl10
 refine ⟨_, rfl, hHeld.go hN.2.1 (by simp), fun hHeld => ?_⟩
 simp only [xPa, xPb, xPc, xPd, xPe]
 have HY10 := Lib.hid hN.by
 have HFD := Lib.hid (HFD.out.and hN.2.1 (by simp))
 have HY2 := Lib.hid (Fr.byk hN.2.1 HY2.out)
 have HY5 := Lib.hid (Fr.byk hN.2.1 HY5.out)
 clear hN hn10 hl10
 refine step_at (i := 11) rfl (by kernel_rfl) (by rfl) (fun K hK => ?_)
 refine wp_run (v := ?_) (w' := ?_) ?_ ?_
 rotate_left 2
 · go_simp
   try first | with_reducible rfl | apply And.intro <;> rfl
 refine hK.out _ (w10.alloc (Obj.cells #[.slice A2 n2 c2, .slice A5 n5 c5, .slice (some ⟨w.heap.size, 3, none⟩) 32 32, .slice A10 n10 c10] 52)) (hHeld.alloc _) (fun hHeld => ?_)
 clear hK K
 simp only [xPa, xPb, xPc, xPd, xPe]
 have hfb : Fr [] w10 (w10.alloc (Obj.cells #[.slice A2 n2 c2, .slice A5 n5 c5, .slice (some ⟨w.heap.size, 3, none⟩) 32 32, .slice A10 n10 c10] 52)) := (Fr.refl [] w10).alloc _
 have hbb : Blk (w10.alloc (Obj.cells #[.slice A2 n2 c2, .slice A5 n5 c5, .slice (some ⟨w.heap.size, 3, none⟩) 32 32, .slice A10 n10 c10] 52)) w10.heap.size 52 (([⟨A2, n2, c2, l2⟩, ⟨A5, n5, c5, l5⟩, ⟨some ⟨w.heap.size, 3, none⟩, 32, 32, x.h⟩, ⟨A10, n10, c10, l10⟩] : List RowV).map RowV.val).toArray := Blk.new _ _ _
 generalize w10.alloc (Obj.cells #[.slice A2 n2 c2, .slice A5 n5 c5, .slice (some ⟨w.heap.size, 3, none⟩) 32 32, .slice A10 n10 c10] 52) = wj at *
 have HFD := Lib.hid (HFD.out.and hfb (by simp))
 have hj := join_big w10.heap.size 4 [⟨A2, n2, c2, l2⟩, ⟨A5, n5, c5, l5⟩, ⟨some ⟨w.heap.size, 3, none⟩, 32, 32, x.h⟩, ⟨A10, n10, c10, l10⟩] wj hbb rfl (by omega) (by
  intro r hr
  simp only [List.mem_cons, List.not_mem_nil, or_false] at hr
  rcases hr with rfl | rfl | rfl | rfl
  · exact ⟨Fr.byk hfb HY2.out, HB2.out⟩
  · exact ⟨Fr.byk hfb HY5.out, HB5.out⟩
  · exact ⟨Fr.byk HFD.out HYH.out, by show 32 ≤ 20000; omega⟩
  · exact ⟨Fr.byk hfb HY10.out, HB10.out⟩)
 have hJ : joinL [⟨A2, n2, c2, l2⟩, ⟨A5, n5, c5, l5⟩, ⟨some ⟨w.heap.size, 3, none⟩, 32, 32, x.h⟩, ⟨A10, n10, c10, l10⟩] = x.bare := by
  simp only [joinL, List.map_cons, List.map_nil, List.flatten_cons, List.flatten_nil, HL2.out, HL5.out, HL10.out]
  simp [Wst.bare]
 rw [hJ] at hj
 obtain ⟨X, hX⟩ : ∃ X, X = x.bare := ⟨_, rfl⟩
 rw [← hX] at hj
 have HXT := Lib.hid hX
 clear hX
 have HJ := Lib.hid hj
 clear hfb hbb hj hJ HY2 HL2 HY5 HL5 HY10 HL10
 refine call_at (i := 12) (f := ?_) (args := ?_) rfl (by kernel_rfl) (by rfl) ?_ ?_
 rotate_left 2
 · go_simp
   try first | with_reducible rfl | apply And.intro <;> rfl
 refine HJ.out.mono ?_
 rintro e wk ⟨Aj, cj, rfl, hN⟩
 have HN := Lib.hid (hN.from2 (HF0.out.and HFD.out (by simp)))
 refine ⟨_, rfl, hHeld.go hN.2.1 (by simp), fun hHeld => ?_⟩
 clear hN
 simp only [xPa, xPb, xPc, xPd, xPe]
 refine run_at (i := 13) (v := ?_) rfl (by kernel_rfl) (by rfl) (fun _ _ _ h => h) hHeld (fun w1 hw1 => ?_) ?_
 rotate_left 1
 · skip
   go_simp
   try first | with_reducible rfl | apply And.intro <;> rfl
 simp only [xPa, xPb, xPc, xPd, xPe]
 refine wpAnyH_done (by kernel_rfl) ?_ _
 go_wp2
 go_ret
 rw [← HXT.out]
 exact ⟨Aj, cj, rfl, HN.out⟩
set_option maxHeartbeats 4000000 in
theorem refbareAck_any (x : Wst) (hx : x.Ok) (C : List Value) (hC : x.cells = C) (w : World) :
  Calls Tryz.prog 34 #[.agg C.toArray] w fun e w' => ∃ A c, e = .returned (.slice A (x.bare).length c) ∧ NewB w w' A (x.bare).length c (x.bare) := by
 obtain ⟨wa, hwa⟩ : ∃ wa, wa = w.alloc (Obj.cells C.toArray 37) := ⟨_, rfl⟩
 have hf0 : Fr [] w wa := by rw [hwa]; exact (Fr.refl [] w).alloc _
 have hb0 : Blk wa w.heap.size 37 x.cells.toArray := by rw [hwa, hC]; exact Blk.new _ _ _
 have HALL : Hid (wa.rangeAt w.heap.size 0 C) := Lib.hid (by rw [← hC]; exact hb0.range)
 have HLN : Hid (C.length = 38) := Lib.hid (by rw [← hC]; exact Wst.len hx.h)
 have hat := Wst.at_of (o := 0) hb0.range hx.h
 have HAT := Lib.hid hat
 have HYH : Hid (By wa (some ⟨w.heap.size, 3, none⟩) 32 x.h) := Lib.hid (by have h := By.of_range hat.hash; rw [hx.h] at h; exact h)
 have HX := Lib.hid hx
 have HRC := Lib.hid hC
 clear hb0 hx hC hat
 have HF0 := Lib.hid hf0
 have HWA := Lib.hid hwa
 clear hwa hf0
 go_enter Tryz.func34, Tryz.ntmps34
 go_wp2
 rw [← HWA.out]
 refine wp_region_held_drew (S := Fr [] wa) (by kernel_rfl) (Fr.drew (Fr.refl _ wa)) (fun hHeld => ?_)
 have HFD : Hid (Fr [] wa wa.drew) := Lib.hid (Fr.drew (Fr.refl [] wa))
 generalize wa.drew = wd at *
 refine run_at (i := 0) (v := ?_) rfl (by kernel_rfl) (by rfl) (fun _ _ _ h => h) hHeld (fun w1 hw1 => ?_) ?_
 rotate_left 1
 · skip
   go_simp
   try first | with_reducible rfl | apply And.intro <;> rfl
 simp only [xPa, xPb, xPc, xPd, xPe]
 refine run_at (i := 1) (v := ?_) rfl (by kernel_rfl) (by rfl) (fun _ _ _ h => h) hHeld (fun w1 hw1 => ?_) ?_
 rotate_left 1
 · skip
   have hcw0 := hw1.cell (HAT.out.r) (by simp)
   go_simp
   try first | with_reducible rfl | apply And.intro <;> rfl
 simp only [xPa, xPb, xPc, xPd, xPe]
 refine run_at (i := 3) (v := ?_) rfl (by kernel_rfl) (by rfl) (fun _ _ _ h => h) hHeld (fun w1 hw1 => ?_) ?_
 rotate_left 1
 · skip
   go_simp
   try first | with_reducible rfl | apply And.intro <;> rfl
 simp only [xPa, xPb, xPc, xPd, xPe]
 refine row_at (i := 4) rfl (by kernel_rfl) (by rfl) _ _ rfl _ _ rfl _ (fun w1 hw1 => hw1.range (HAT.out.name) (by simp)) (row_name) (fun _ _ _ h => h) hHeld ?_
 simp only [xPa, xPb, xPc, xPd, xPe]
 refine run_at (i := 6) (v := ?_) rfl (by kernel_rfl) (by rfl) (fun _ _ _ h => h) hHeld (fun w1 hw1 => ?_) ?_
 rotate_left 1
 · skip
   go_simp
   try first | with_reducible rfl | apply And.intro <;> rfl
 simp only [xPa, xPb, xPc, xPd, xPe]
 refine run_at (i := 7) (v := ?_) rfl (by kernel_rfl) (by rfl) (fun _ _ _ h => h) hHeld (fun w1 hw1 => ?_) ?_
 rotate_left 1
 · skip
   go_simp
   try first | with_reducible rfl | apply And.intro <;> rfl
 simp only [xPa, xPb, xPc, xPd, xPe]
 refine run_at (i := 8) (v := ?_) rfl (by kernel_rfl) (by rfl) (fun _ _ _ h => h) hHeld (fun w1 hw1 => ?_) ?_
 rotate_left 1
 · skip
   go_simp
   try first | with_reducible rfl | apply And.intro <;> rfl
 simp only [xPa, xPb, xPc, xPd, xPe]
 refine run_at (i := 9) (v := ?_) rfl (by kernel_rfl) (by rfl) (fun _ _ _ h => h) hHeld (fun w1 hw1 => ?_) ?_
 rotate_left 1
 · skip
   have hcw0 := hw1.cell (HAT.out.t) (by simp)
   go_simp
   try first | with_reducible rfl | apply And.intro <;> rfl
 simp only [xPa, xPb, xPc, xPd, xPe]
 refine call_at (i := 2) (f := ?_) (args := ?_) rfl (by kernel_rfl) (by rfl) ?_ ?_
 rotate_left 2
 · go_simp
   try first | with_reducible rfl | apply And.intro <;> rfl
 refine (refint_any x.r HX.out.r.2 wd).mono ?_
 rintro e w2 ⟨A2, c2, rfl, hN⟩
 obtain ⟨n2, hn2⟩ : ∃ nn_, nn_ = (encI x.r).length := ⟨_, rfl⟩
 obtain ⟨l2, hl2⟩ : ∃ ll_, ll_ = encI x.r := ⟨_, rfl⟩
 rw [← hn2] at hN ⊢
 rw [← hl2] at hN
 have HB2 : Hid (n2 ≤ 20000) := Lib.hid (by rw [hn2]; have := encI_len x.r HX.out.r.2; omega)
 have HL2 := Lib.hid hl2
 refine ⟨_, rfl, hHeld.go hN.2.1 (by simp), fun hHeld => ?_⟩
 simp only [xPa, xPb, xPc, xPd, xPe]
 have HY2 := Lib.hid hN.by
 have HFD := Lib.hid (HFD.out.and hN.2.1 (by simp))
 clear hN hn2 hl2
 refine call_at (i := 5) (f := ?_) (args := ?_) rfl (by kernel_rfl) (by rfl) ?_ ?_
 rotate_left 2
 · go_simp
   try first | with_reducible rfl | apply And.intro <;> rfl
 refine (refname_any x.c x.s HX.out.c HX.out.s w2).mono ?_
 rintro e w5 ⟨A5, c5, rfl, hN⟩
 obtain ⟨n5, hn5⟩ : ∃ nn_, nn_ = (nmL x.c x.s).length := ⟨_, rfl⟩
 obtain ⟨l5, hl5⟩ : ∃ ll_, ll_ = nmL x.c x.s := ⟨_, rfl⟩
 rw [← hn5] at hN ⊢
 rw [← hl5] at hN
 have HB5 : Hid (n5 ≤ 20000) := Lib.hid (by rw [hn5]; have := encI_len x.c HX.out.c.2; have := encI_len x.s HX.out.s.2; simp only [nmL, List.length_append]; omega)
 have HL5 := Lib.hid hl5
 refine ⟨_, rfl, hHeld.go hN.2.1 (by simp), fun hHeld => ?_⟩
 simp only [xPa, xPb, xPc, xPd, xPe]
 have HY5 := Lib.hid hN.by
 have HFD := Lib.hid (HFD.out.and hN.2.1 (by simp))
 have HY2 := Lib.hid (Fr.byk hN.2.1 HY2.out)
 clear hN hn5 hl5
 refine call_at (i := 10) (f := ?_) (args := ?_) rfl (by kernel_rfl) (by rfl) ?_ ?_
 rotate_left 2
 · go_simp
   try first | with_reducible rfl | apply And.intro <;> rfl
 refine (refnum_any x.t HX.out.t w5).mono ?_
 rintro e w10 ⟨A10, c10, rfl, hN⟩
 obtain ⟨n10, hn10⟩ : ∃ nn_, nn_ = (enc x.t).length := ⟨_, rfl⟩
 obtain ⟨l10, hl10⟩ : ∃ ll_, ll_ = enc x.t := ⟨_, rfl⟩
 rw [← hn10] at hN ⊢
 rw [← hl10] at hN
 have HB10 : Hid (n10 ≤ 20000) := Lib.hid (by rw [hn10]; have := enc_ten HX.out.t; omega)
 have HL10 := Lib.hid hl10
 refine ⟨_, rfl, hHeld.go hN.2.1 (by simp), fun hHeld => ?_⟩
 simp only [xPa, xPb, xPc, xPd, xPe]
 have HY10 := Lib.hid hN.by
 have HFD := Lib.hid (HFD.out.and hN.2.1 (by simp))
 have HY2 := Lib.hid (Fr.byk hN.2.1 HY2.out)
 have HY5 := Lib.hid (Fr.byk hN.2.1 HY5.out)
 clear hN hn10 hl10
 refine step_at (i := 11) rfl (by kernel_rfl) (by rfl) (fun K hK => ?_)
 refine wp_run (v := ?_) (w' := ?_) ?_ ?_
 rotate_left 2
 · go_simp
   try first | with_reducible rfl | apply And.intro <;> rfl
 refine hK.out _ (w10.alloc (Obj.cells #[.slice A2 n2 c2, .slice A5 n5 c5, .slice (some ⟨w.heap.size, 3, none⟩) 32 32, .slice A10 n10 c10] 52)) (hHeld.alloc _) (fun hHeld => ?_)
 clear hK K
 simp only [xPa, xPb, xPc, xPd, xPe]
 have hfb : Fr [] w10 (w10.alloc (Obj.cells #[.slice A2 n2 c2, .slice A5 n5 c5, .slice (some ⟨w.heap.size, 3, none⟩) 32 32, .slice A10 n10 c10] 52)) := (Fr.refl [] w10).alloc _
 have hbb : Blk (w10.alloc (Obj.cells #[.slice A2 n2 c2, .slice A5 n5 c5, .slice (some ⟨w.heap.size, 3, none⟩) 32 32, .slice A10 n10 c10] 52)) w10.heap.size 52 (([⟨A2, n2, c2, l2⟩, ⟨A5, n5, c5, l5⟩, ⟨some ⟨w.heap.size, 3, none⟩, 32, 32, x.h⟩, ⟨A10, n10, c10, l10⟩] : List RowV).map RowV.val).toArray := Blk.new _ _ _
 generalize w10.alloc (Obj.cells #[.slice A2 n2 c2, .slice A5 n5 c5, .slice (some ⟨w.heap.size, 3, none⟩) 32 32, .slice A10 n10 c10] 52) = wj at *
 have HFD := Lib.hid (HFD.out.and hfb (by simp))
 have hj := join_big w10.heap.size 4 [⟨A2, n2, c2, l2⟩, ⟨A5, n5, c5, l5⟩, ⟨some ⟨w.heap.size, 3, none⟩, 32, 32, x.h⟩, ⟨A10, n10, c10, l10⟩] wj hbb rfl (by omega) (by
  intro r hr
  simp only [List.mem_cons, List.not_mem_nil, or_false] at hr
  rcases hr with rfl | rfl | rfl | rfl
  · exact ⟨Fr.byk hfb HY2.out, HB2.out⟩
  · exact ⟨Fr.byk hfb HY5.out, HB5.out⟩
  · exact ⟨Fr.byk HFD.out HYH.out, by show 32 ≤ 20000; omega⟩
  · exact ⟨Fr.byk hfb HY10.out, HB10.out⟩)
 have hJ : joinL [⟨A2, n2, c2, l2⟩, ⟨A5, n5, c5, l5⟩, ⟨some ⟨w.heap.size, 3, none⟩, 32, 32, x.h⟩, ⟨A10, n10, c10, l10⟩] = x.bare := by
  simp only [joinL, List.map_cons, List.map_nil, List.flatten_cons, List.flatten_nil, HL2.out, HL5.out, HL10.out]
  simp [Wst.bare]
 rw [hJ] at hj
 obtain ⟨X, hX⟩ : ∃ X, X = x.bare := ⟨_, rfl⟩
 rw [← hX] at hj
 have HXT := Lib.hid hX
 clear hX
 have HJ := Lib.hid hj
 clear hfb hbb hj hJ HY2 HL2 HY5 HL5 HY10 HL10
 refine call_at (i := 12) (f := ?_) (args := ?_) rfl (by kernel_rfl) (by rfl) ?_ ?_
 rotate_left 2
 · go_simp
   try first | with_reducible rfl | apply And.intro <;> rfl
 refine HJ.out.mono ?_
 rintro e wk ⟨Aj, cj, rfl, hN⟩
 have HN := Lib.hid (hN.from2 (HF0.out.and HFD.out (by simp)))
 refine ⟨_, rfl, hHeld.go hN.2.1 (by simp), fun hHeld => ?_⟩
 clear hN
 simp only [xPa, xPb, xPc, xPd, xPe]
 refine run_at (i := 13) (v := ?_) rfl (by kernel_rfl) (by rfl) (fun _ _ _ h => h) hHeld (fun w1 hw1 => ?_) ?_
 rotate_left 1
 · skip
   go_simp
   try first | with_reducible rfl | apply And.intro <;> rfl
 simp only [xPa, xPb, xPc, xPd, xPe]
 refine wpAnyH_done (by kernel_rfl) ?_ _
 go_wp2
 go_ret
 rw [← HXT.out]
 exact ⟨Aj, cj, rfl, HN.out⟩
set_option maxHeartbeats 4000000 in
theorem refbareVote_any (x : Wvt) (hx : x.Ok) (C : List Value) (hC : x.cells = C) (w : World) :
  Calls Tryz.prog 39 #[.agg C.toArray] w fun e w' => ∃ A c, e = .returned (.slice A (x.bare).length c) ∧ NewB w w' A (x.bare).length c (x.bare) := by
 obtain ⟨wa, hwa⟩ : ∃ wa, wa = w.alloc (Obj.cells C.toArray 49) := ⟨_, rfl⟩
 have hf0 : Fr [] w wa := by rw [hwa]; exact (Fr.refl [] w).alloc _
 have hb0 : Blk wa w.heap.size 49 x.cells.toArray := by rw [hwa, hC]; exact Blk.new _ _ _
 have HALL : Hid (wa.rangeAt w.heap.size 0 C) := Lib.hid (by rw [← hC]; exact hb0.range)
 have HLN : Hid (C.length = 38) := Lib.hid (by rw [← hC]; exact Wvt.len hx.h)
 have hat := Wvt.at_of (o := 0) hb0.range hx.h
 have HAT := Lib.hid hat
 have HYH : Hid (By wa (some ⟨w.heap.size, 4, none⟩) 32 x.h) := Lib.hid (by have h := By.of_range hat.hash; rw [hx.h] at h; exact h)
 have HX := Lib.hid hx
 have HRC := Lib.hid hC
 clear hb0 hx hC hat
 have HF0 := Lib.hid hf0
 have HWA := Lib.hid hwa
 clear hwa hf0
 go_enter Tryz.func39, Tryz.ntmps39
 go_wp2
 rw [← HWA.out]
 refine wp_region_held_drew (S := Fr [] wa) (by kernel_rfl) (Fr.drew (Fr.refl _ wa)) (fun hHeld => ?_)
 have HFD : Hid (Fr [] wa wa.drew) := Lib.hid (Fr.drew (Fr.refl [] wa))
 generalize wa.drew = wd at *
 refine run_at (i := 0) (v := ?_) rfl (by kernel_rfl) (by rfl) (fun _ _ _ h => h) hHeld (fun w1 hw1 => ?_) ?_
 rotate_left 1
 · skip
   go_simp
   try first | with_reducible rfl | apply And.intro <;> rfl
 simp only [xPa, xPb, xPc, xPd, xPe]
 refine run_at (i := 1) (v := ?_) rfl (by kernel_rfl) (by rfl) (fun _ _ _ h => h) hHeld (fun w1 hw1 => ?_) ?_
 rotate_left 1
 · skip
   have hcw0 := hw1.cell (HAT.out.k) (by simp)
   go_simp
   try first | with_reducible rfl | apply And.intro <;> rfl
 simp only [xPa, xPb, xPc, xPd, xPe]
 refine run_at (i := 3) (v := ?_) rfl (by kernel_rfl) (by rfl) (fun _ _ _ h => h) hHeld (fun w1 hw1 => ?_) ?_
 rotate_left 1
 · skip
   go_simp
   try first | with_reducible rfl | apply And.intro <;> rfl
 simp only [xPa, xPb, xPc, xPd, xPe]
 refine run_at (i := 4) (v := ?_) rfl (by kernel_rfl) (by rfl) (fun _ _ _ h => h) hHeld (fun w1 hw1 => ?_) ?_
 rotate_left 1
 · skip
   have hcw0 := hw1.cell (HAT.out.e) (by simp)
   go_simp
   try first | with_reducible rfl | apply And.intro <;> rfl
 simp only [xPa, xPb, xPc, xPd, xPe]
 refine run_at (i := 6) (v := ?_) rfl (by kernel_rfl) (by rfl) (fun _ _ _ h => h) hHeld (fun w1 hw1 => ?_) ?_
 rotate_left 1
 · skip
   go_simp
   try first | with_reducible rfl | apply And.intro <;> rfl
 simp only [xPa, xPb, xPc, xPd, xPe]
 refine run_at (i := 7) (v := ?_) rfl (by kernel_rfl) (by rfl) (fun _ _ _ h => h) hHeld (fun w1 hw1 => ?_) ?_
 rotate_left 1
 · skip
   have hcw0 := hw1.cell (HAT.out.r) (by simp)
   go_simp
   try first | with_reducible rfl | apply And.intro <;> rfl
 simp only [xPa, xPb, xPc, xPd, xPe]
 refine run_at (i := 9) (v := ?_) rfl (by kernel_rfl) (by rfl) (fun _ _ _ h => h) hHeld (fun w1 hw1 => ?_) ?_
 rotate_left 1
 · skip
   go_simp
   try first | with_reducible rfl | apply And.intro <;> rfl
 simp only [xPa, xPb, xPc, xPd, xPe]
 refine run_at (i := 10) (v := ?_) rfl (by kernel_rfl) (by rfl) (fun _ _ _ h => h) hHeld (fun w1 hw1 => ?_) ?_
 rotate_left 1
 · skip
   have hcw0 := hw1.cell (HAT.out.p) (by simp)
   go_simp
   try first | with_reducible rfl | apply And.intro <;> rfl
 simp only [xPa, xPb, xPc, xPd, xPe]
 refine run_at (i := 12) (v := ?_) rfl (by kernel_rfl) (by rfl) (fun _ _ _ h => h) hHeld (fun w1 hw1 => ?_) ?_
 rotate_left 1
 · skip
   go_simp
   try first | with_reducible rfl | apply And.intro <;> rfl
 simp only [xPa, xPb, xPc, xPd, xPe]
 refine run_at (i := 13) (v := ?_) rfl (by kernel_rfl) (by rfl) (fun _ _ _ h => h) hHeld (fun w1 hw1 => ?_) ?_
 rotate_left 1
 · skip
   go_simp
   try first | with_reducible rfl | apply And.intro <;> rfl
 simp only [xPa, xPb, xPc, xPd, xPe]
 refine call_at (i := 2) (f := ?_) (args := ?_) rfl (by kernel_rfl) (by rfl) ?_ ?_
 rotate_left 2
 · go_simp
   try first | with_reducible rfl | apply And.intro <;> rfl
 refine (refint_any x.k HX.out.k.2 wd).mono ?_
 rintro e w2 ⟨A2, c2, rfl, hN⟩
 obtain ⟨n2, hn2⟩ : ∃ nn_, nn_ = (encI x.k).length := ⟨_, rfl⟩
 obtain ⟨l2, hl2⟩ : ∃ ll_, ll_ = encI x.k := ⟨_, rfl⟩
 rw [← hn2] at hN ⊢
 rw [← hl2] at hN
 have HB2 : Hid (n2 ≤ 20000) := Lib.hid (by rw [hn2]; have := encI_len x.k HX.out.k.2; omega)
 have HL2 := Lib.hid hl2
 refine ⟨_, rfl, hHeld.go hN.2.1 (by simp), fun hHeld => ?_⟩
 simp only [xPa, xPb, xPc, xPd, xPe]
 have HY2 := Lib.hid hN.by
 have HFD := Lib.hid (HFD.out.and hN.2.1 (by simp))
 clear hN hn2 hl2
 refine call_at (i := 5) (f := ?_) (args := ?_) rfl (by kernel_rfl) (by rfl) ?_ ?_
 rotate_left 2
 · go_simp
   try first | with_reducible rfl | apply And.intro <;> rfl
 refine (refint_any x.e HX.out.e.2 w2).mono ?_
 rintro e w5 ⟨A5, c5, rfl, hN⟩
 obtain ⟨n5, hn5⟩ : ∃ nn_, nn_ = (encI x.e).length := ⟨_, rfl⟩
 obtain ⟨l5, hl5⟩ : ∃ ll_, ll_ = encI x.e := ⟨_, rfl⟩
 rw [← hn5] at hN ⊢
 rw [← hl5] at hN
 have HB5 : Hid (n5 ≤ 20000) := Lib.hid (by rw [hn5]; have := encI_len x.e HX.out.e.2; omega)
 have HL5 := Lib.hid hl5
 refine ⟨_, rfl, hHeld.go hN.2.1 (by simp), fun hHeld => ?_⟩
 simp only [xPa, xPb, xPc, xPd, xPe]
 have HY5 := Lib.hid hN.by
 have HFD := Lib.hid (HFD.out.and hN.2.1 (by simp))
 have HY2 := Lib.hid (Fr.byk hN.2.1 HY2.out)
 clear hN hn5 hl5
 refine call_at (i := 8) (f := ?_) (args := ?_) rfl (by kernel_rfl) (by rfl) ?_ ?_
 rotate_left 2
 · go_simp
   try first | with_reducible rfl | apply And.intro <;> rfl
 refine (refint_any x.r HX.out.r.2 w5).mono ?_
 rintro e w8 ⟨A8, c8, rfl, hN⟩
 obtain ⟨n8, hn8⟩ : ∃ nn_, nn_ = (encI x.r).length := ⟨_, rfl⟩
 obtain ⟨l8, hl8⟩ : ∃ ll_, ll_ = encI x.r := ⟨_, rfl⟩
 rw [← hn8] at hN ⊢
 rw [← hl8] at hN
 have HB8 : Hid (n8 ≤ 20000) := Lib.hid (by rw [hn8]; have := encI_len x.r HX.out.r.2; omega)
 have HL8 := Lib.hid hl8
 refine ⟨_, rfl, hHeld.go hN.2.1 (by simp), fun hHeld => ?_⟩
 simp only [xPa, xPb, xPc, xPd, xPe]
 have HY8 := Lib.hid hN.by
 have HFD := Lib.hid (HFD.out.and hN.2.1 (by simp))
 have HY2 := Lib.hid (Fr.byk hN.2.1 HY2.out)
 have HY5 := Lib.hid (Fr.byk hN.2.1 HY5.out)
 clear hN hn8 hl8
 refine call_at (i := 11) (f := ?_) (args := ?_) rfl (by kernel_rfl) (by rfl) ?_ ?_
 rotate_left 2
 · go_simp
   try first | with_reducible rfl | apply And.intro <;> rfl
 refine (refint_any x.p HX.out.p.2 w8).mono ?_
 rintro e w11 ⟨A11, c11, rfl, hN⟩
 obtain ⟨n11, hn11⟩ : ∃ nn_, nn_ = (encI x.p).length := ⟨_, rfl⟩
 obtain ⟨l11, hl11⟩ : ∃ ll_, ll_ = encI x.p := ⟨_, rfl⟩
 rw [← hn11] at hN ⊢
 rw [← hl11] at hN
 have HB11 : Hid (n11 ≤ 20000) := Lib.hid (by rw [hn11]; have := encI_len x.p HX.out.p.2; omega)
 have HL11 := Lib.hid hl11
 refine ⟨_, rfl, hHeld.go hN.2.1 (by simp), fun hHeld => ?_⟩
 simp only [xPa, xPb, xPc, xPd, xPe]
 have HY11 := Lib.hid hN.by
 have HFD := Lib.hid (HFD.out.and hN.2.1 (by simp))
 have HY2 := Lib.hid (Fr.byk hN.2.1 HY2.out)
 have HY5 := Lib.hid (Fr.byk hN.2.1 HY5.out)
 have HY8 := Lib.hid (Fr.byk hN.2.1 HY8.out)
 clear hN hn11 hl11
 refine step_at (i := 14) rfl (by kernel_rfl) (by rfl) (fun K hK => ?_)
 refine wp_run (v := ?_) (w' := ?_) ?_ ?_
 rotate_left 2
 · go_simp
   try first | with_reducible rfl | apply And.intro <;> rfl
 refine hK.out _ (w11.alloc (Obj.cells #[.slice A2 n2 c2, .slice A5 n5 c5, .slice A8 n8 c8, .slice A11 n11 c11, .slice (some ⟨w.heap.size, 4, none⟩) 32 32] 52)) (hHeld.alloc _) (fun hHeld => ?_)
 clear hK K
 simp only [xPa, xPb, xPc, xPd, xPe]
 have hfb : Fr [] w11 (w11.alloc (Obj.cells #[.slice A2 n2 c2, .slice A5 n5 c5, .slice A8 n8 c8, .slice A11 n11 c11, .slice (some ⟨w.heap.size, 4, none⟩) 32 32] 52)) := (Fr.refl [] w11).alloc _
 have hbb : Blk (w11.alloc (Obj.cells #[.slice A2 n2 c2, .slice A5 n5 c5, .slice A8 n8 c8, .slice A11 n11 c11, .slice (some ⟨w.heap.size, 4, none⟩) 32 32] 52)) w11.heap.size 52 (([⟨A2, n2, c2, l2⟩, ⟨A5, n5, c5, l5⟩, ⟨A8, n8, c8, l8⟩, ⟨A11, n11, c11, l11⟩, ⟨some ⟨w.heap.size, 4, none⟩, 32, 32, x.h⟩] : List RowV).map RowV.val).toArray := Blk.new _ _ _
 generalize w11.alloc (Obj.cells #[.slice A2 n2 c2, .slice A5 n5 c5, .slice A8 n8 c8, .slice A11 n11 c11, .slice (some ⟨w.heap.size, 4, none⟩) 32 32] 52) = wj at *
 have HFD := Lib.hid (HFD.out.and hfb (by simp))
 have hj := join_big w11.heap.size 5 [⟨A2, n2, c2, l2⟩, ⟨A5, n5, c5, l5⟩, ⟨A8, n8, c8, l8⟩, ⟨A11, n11, c11, l11⟩, ⟨some ⟨w.heap.size, 4, none⟩, 32, 32, x.h⟩] wj hbb rfl (by omega) (by
  intro r hr
  simp only [List.mem_cons, List.not_mem_nil, or_false] at hr
  rcases hr with rfl | rfl | rfl | rfl | rfl
  · exact ⟨Fr.byk hfb HY2.out, HB2.out⟩
  · exact ⟨Fr.byk hfb HY5.out, HB5.out⟩
  · exact ⟨Fr.byk hfb HY8.out, HB8.out⟩
  · exact ⟨Fr.byk hfb HY11.out, HB11.out⟩
  · exact ⟨Fr.byk HFD.out HYH.out, by show 32 ≤ 20000; omega⟩)
 have hJ : joinL [⟨A2, n2, c2, l2⟩, ⟨A5, n5, c5, l5⟩, ⟨A8, n8, c8, l8⟩, ⟨A11, n11, c11, l11⟩, ⟨some ⟨w.heap.size, 4, none⟩, 32, 32, x.h⟩] = x.bare := by
  simp only [joinL, List.map_cons, List.map_nil, List.flatten_cons, List.flatten_nil, HL2.out, HL5.out, HL8.out, HL11.out]
  simp [Wvt.bare]
 rw [hJ] at hj
 obtain ⟨X, hX⟩ : ∃ X, X = x.bare := ⟨_, rfl⟩
 rw [← hX] at hj
 have HXT := Lib.hid hX
 clear hX
 have HJ := Lib.hid hj
 clear hfb hbb hj hJ HY2 HL2 HY5 HL5 HY8 HL8 HY11 HL11
 refine call_at (i := 15) (f := ?_) (args := ?_) rfl (by kernel_rfl) (by rfl) ?_ ?_
 rotate_left 2
 · go_simp
   try first | with_reducible rfl | apply And.intro <;> rfl
 refine HJ.out.mono ?_
 rintro e wk ⟨Aj, cj, rfl, hN⟩
 have HN := Lib.hid (hN.from2 (HF0.out.and HFD.out (by simp)))
 refine ⟨_, rfl, hHeld.go hN.2.1 (by simp), fun hHeld => ?_⟩
 clear hN
 simp only [xPa, xPb, xPc, xPd, xPe]
 refine run_at (i := 16) (v := ?_) rfl (by kernel_rfl) (by rfl) (fun _ _ _ h => h) hHeld (fun w1 hw1 => ?_) ?_
 rotate_left 1
 · skip
   go_simp
   try first | with_reducible rfl | apply And.intro <;> rfl
 simp only [xPa, xPb, xPc, xPd, xPe]
 refine wpAnyH_done (by kernel_rfl) ?_ _
 go_wp2
 go_ret
 rw [← HXT.out]
 exact ⟨Aj, cj, rfl, HN.out⟩
set_option maxHeartbeats 4000000 in
theorem refputDeny_any (x : Wdn) (hx : x.Ok) (C : List Value) (hC : x.cells = C) (w : World) :
  Calls Tryz.prog 42 #[.agg C.toArray] w fun e w' => ∃ A c, e = .returned (.slice A (x.full).length c) ∧ NewB w w' A (x.full).length c (x.full) := by
 obtain ⟨wa, hwa⟩ : ∃ wa, wa = w.alloc (Obj.cells C.toArray 56) := ⟨_, rfl⟩
 have hf0 : Fr [] w wa := by rw [hwa]; exact (Fr.refl [] w).alloc _
 have hb0 : Blk wa w.heap.size 56 x.cells.toArray := by rw [hwa, hC]; exact Blk.new _ _ _
 have HALL : Hid (wa.rangeAt w.heap.size 0 C) := Lib.hid (by rw [← hC]; exact hb0.range)
 have HLN : Hid (C.length = 4) := Lib.hid (by rw [← hC]; exact rfl)
 have hat := Wdn.at_of (o := 0) hb0.range
 have HAT := Lib.hid hat
 have HX := Lib.hid hx
 have HRC := Lib.hid hC
 clear hb0 hx hC hat
 have HF0 := Lib.hid hf0
 have HWA := Lib.hid hwa
 clear hwa hf0
 go_enter Tryz.func42, Tryz.ntmps42
 go_wp2
 rw [← HWA.out]
 refine wp_region_held_drew (S := Fr [] wa) (by kernel_rfl) (Fr.drew (Fr.refl _ wa)) (fun hHeld => ?_)
 have HFD : Hid (Fr [] wa wa.drew) := Lib.hid (Fr.drew (Fr.refl [] wa))
 generalize wa.drew = wd at *
 refine run_at (i := 0) (v := ?_) rfl (by kernel_rfl) (by rfl) (fun _ _ _ h => h) hHeld (fun w1 hw1 => ?_) ?_
 rotate_left 1
 · skip
   go_simp
   try first | with_reducible rfl | apply And.intro <;> rfl
 simp only [xPa, xPb, xPc, xPd, xPe]
 refine run_at (i := 1) (v := ?_) rfl (by kernel_rfl) (by rfl) (fun _ _ _ h => h) hHeld (fun w1 hw1 => ?_) ?_
 rotate_left 1
 · skip
   have hcw0 := hw1.cell (HAT.out.r) (by simp)
   go_simp
   try first | with_reducible rfl | apply And.intro <;> rfl
 simp only [xPa, xPb, xPc, xPd, xPe]
 refine run_at (i := 3) (v := ?_) rfl (by kernel_rfl) (by rfl) (fun _ _ _ h => h) hHeld (fun w1 hw1 => ?_) ?_
 rotate_left 1
 · skip
   go_simp
   try first | with_reducible rfl | apply And.intro <;> rfl
 simp only [xPa, xPb, xPc, xPd, xPe]
 refine run_at (i := 4) (v := ?_) rfl (by kernel_rfl) (by rfl) (fun _ _ _ h => h) hHeld (fun w1 hw1 => ?_) ?_
 rotate_left 1
 · skip
   have hcw0 := hw1.cell (HAT.out.i) (by simp)
   go_simp
   try first | with_reducible rfl | apply And.intro <;> rfl
 simp only [xPa, xPb, xPc, xPd, xPe]
 refine run_at (i := 6) (v := ?_) rfl (by kernel_rfl) (by rfl) (fun _ _ _ h => h) hHeld (fun w1 hw1 => ?_) ?_
 rotate_left 1
 · skip
   go_simp
   try first | with_reducible rfl | apply And.intro <;> rfl
 simp only [xPa, xPb, xPc, xPd, xPe]
 refine row_at (i := 7) rfl (by kernel_rfl) (by rfl) _ _ rfl _ _ rfl _ (fun w1 hw1 => hw1.range (HAT.out.sig) (by simp)) (row_sig) (fun _ _ _ h => h) hHeld ?_
 simp only [xPa, xPb, xPc, xPd, xPe]
 refine call_at (i := 2) (f := ?_) (args := ?_) rfl (by kernel_rfl) (by rfl) ?_ ?_
 rotate_left 2
 · go_simp
   try first | with_reducible rfl | apply And.intro <;> rfl
 refine (refint_any x.r HX.out.r.2 wd).mono ?_
 rintro e w2 ⟨A2, c2, rfl, hN⟩
 obtain ⟨n2, hn2⟩ : ∃ nn_, nn_ = (encI x.r).length := ⟨_, rfl⟩
 obtain ⟨l2, hl2⟩ : ∃ ll_, ll_ = encI x.r := ⟨_, rfl⟩
 rw [← hn2] at hN ⊢
 rw [← hl2] at hN
 have HB2 : Hid (n2 ≤ 20000) := Lib.hid (by rw [hn2]; have := encI_len x.r HX.out.r.2; omega)
 have HL2 := Lib.hid hl2
 refine ⟨_, rfl, hHeld.go hN.2.1 (by simp), fun hHeld => ?_⟩
 simp only [xPa, xPb, xPc, xPd, xPe]
 have HY2 := Lib.hid hN.by
 have HFD := Lib.hid (HFD.out.and hN.2.1 (by simp))
 clear hN hn2 hl2
 refine call_at (i := 5) (f := ?_) (args := ?_) rfl (by kernel_rfl) (by rfl) ?_ ?_
 rotate_left 2
 · go_simp
   try first | with_reducible rfl | apply And.intro <;> rfl
 refine (refint_any x.i HX.out.i.2 w2).mono ?_
 rintro e w5 ⟨A5, c5, rfl, hN⟩
 obtain ⟨n5, hn5⟩ : ∃ nn_, nn_ = (encI x.i).length := ⟨_, rfl⟩
 obtain ⟨l5, hl5⟩ : ∃ ll_, ll_ = encI x.i := ⟨_, rfl⟩
 rw [← hn5] at hN ⊢
 rw [← hl5] at hN
 have HB5 : Hid (n5 ≤ 20000) := Lib.hid (by rw [hn5]; have := encI_len x.i HX.out.i.2; omega)
 have HL5 := Lib.hid hl5
 refine ⟨_, rfl, hHeld.go hN.2.1 (by simp), fun hHeld => ?_⟩
 simp only [xPa, xPb, xPc, xPd, xPe]
 have HY5 := Lib.hid hN.by
 have HFD := Lib.hid (HFD.out.and hN.2.1 (by simp))
 have HY2 := Lib.hid (Fr.byk hN.2.1 HY2.out)
 clear hN hn5 hl5
 refine call_at (i := 8) (f := ?_) (args := ?_) rfl (by kernel_rfl) (by rfl) ?_ ?_
 rotate_left 2
 · go_simp
   try first | with_reducible rfl | apply And.intro <;> rfl
 refine (refsig_any x.b x.m HX.out.b HX.out.m w5).mono ?_
 rintro e w8 ⟨A8, c8, rfl, hN⟩
 obtain ⟨n8, hn8⟩ : ∃ nn_, nn_ = (sgL x.b x.m).length := ⟨_, rfl⟩
 obtain ⟨l8, hl8⟩ : ∃ ll_, ll_ = sgL x.b x.m := ⟨_, rfl⟩
 rw [← hn8] at hN ⊢
 rw [← hl8] at hN
 have HB8 : Hid (n8 ≤ 20000) := Lib.hid (by rw [hn8]; have := encI_len x.b HX.out.b.2; have := encI_len x.m HX.out.m.2; simp only [sgL, List.length_append]; omega)
 have HL8 := Lib.hid hl8
 refine ⟨_, rfl, hHeld.go hN.2.1 (by simp), fun hHeld => ?_⟩
 simp only [xPa, xPb, xPc, xPd, xPe]
 have HY8 := Lib.hid hN.by
 have HFD := Lib.hid (HFD.out.and hN.2.1 (by simp))
 have HY2 := Lib.hid (Fr.byk hN.2.1 HY2.out)
 have HY5 := Lib.hid (Fr.byk hN.2.1 HY5.out)
 clear hN hn8 hl8
 refine step_at (i := 9) rfl (by kernel_rfl) (by rfl) (fun K hK => ?_)
 refine wp_run (v := ?_) (w' := ?_) ?_ ?_
 rotate_left 2
 · go_simp
   try first | with_reducible rfl | apply And.intro <;> rfl
 refine hK.out _ (w8.alloc (Obj.cells #[.slice A2 n2 c2, .slice A5 n5 c5, .slice A8 n8 c8] 52)) (hHeld.alloc _) (fun hHeld => ?_)
 clear hK K
 simp only [xPa, xPb, xPc, xPd, xPe]
 have hfb : Fr [] w8 (w8.alloc (Obj.cells #[.slice A2 n2 c2, .slice A5 n5 c5, .slice A8 n8 c8] 52)) := (Fr.refl [] w8).alloc _
 have hbb : Blk (w8.alloc (Obj.cells #[.slice A2 n2 c2, .slice A5 n5 c5, .slice A8 n8 c8] 52)) w8.heap.size 52 (([⟨A2, n2, c2, l2⟩, ⟨A5, n5, c5, l5⟩, ⟨A8, n8, c8, l8⟩] : List RowV).map RowV.val).toArray := Blk.new _ _ _
 generalize w8.alloc (Obj.cells #[.slice A2 n2 c2, .slice A5 n5 c5, .slice A8 n8 c8] 52) = wj at *
 have HFD := Lib.hid (HFD.out.and hfb (by simp))
 have hj := join_big w8.heap.size 3 [⟨A2, n2, c2, l2⟩, ⟨A5, n5, c5, l5⟩, ⟨A8, n8, c8, l8⟩] wj hbb rfl (by omega) (by
  intro r hr
  simp only [List.mem_cons, List.not_mem_nil, or_false] at hr
  rcases hr with rfl | rfl | rfl
  · exact ⟨Fr.byk hfb HY2.out, HB2.out⟩
  · exact ⟨Fr.byk hfb HY5.out, HB5.out⟩
  · exact ⟨Fr.byk hfb HY8.out, HB8.out⟩)
 have hJ : joinL [⟨A2, n2, c2, l2⟩, ⟨A5, n5, c5, l5⟩, ⟨A8, n8, c8, l8⟩] = x.full := by
  simp only [joinL, List.map_cons, List.map_nil, List.flatten_cons, List.flatten_nil, HL2.out, HL5.out, HL8.out]
  simp [Wdn.full, Wdn.bare]
 rw [hJ] at hj
 obtain ⟨X, hX⟩ : ∃ X, X = x.full := ⟨_, rfl⟩
 rw [← hX] at hj
 have HXT := Lib.hid hX
 clear hX
 have HJ := Lib.hid hj
 clear hfb hbb hj hJ HY2 HL2 HY5 HL5 HY8 HL8
 refine call_at (i := 10) (f := ?_) (args := ?_) rfl (by kernel_rfl) (by rfl) ?_ ?_
 rotate_left 2
 · go_simp
   try first | with_reducible rfl | apply And.intro <;> rfl
 refine HJ.out.mono ?_
 rintro e wk ⟨Aj, cj, rfl, hN⟩
 have HN := Lib.hid (hN.from2 (HF0.out.and HFD.out (by simp)))
 refine ⟨_, rfl, hHeld.go hN.2.1 (by simp), fun hHeld => ?_⟩
 clear hN
 simp only [xPa, xPb, xPc, xPd, xPe]
 refine run_at (i := 11) (v := ?_) rfl (by kernel_rfl) (by rfl) (fun _ _ _ h => h) hHeld (fun w1 hw1 => ?_) ?_
 rotate_left 1
 · skip
   go_simp
   try first | with_reducible rfl | apply And.intro <;> rfl
 simp only [xPa, xPb, xPc, xPd, xPe]
 refine wpAnyH_done (by kernel_rfl) ?_ _
 go_wp2
 go_ret
 rw [← HXT.out]
 exact ⟨Aj, cj, rfl, HN.out⟩
set_option maxHeartbeats 4000000 in
theorem refputStamp_any (x : Wst) (hx : x.Ok) (C : List Value) (hC : x.cells = C) (w : World) :
  Calls Tryz.prog 32 #[.agg C.toArray] w fun e w' => ∃ A c, e = .returned (.slice A (x.full).length c) ∧ NewB w w' A (x.full).length c (x.full) := by
 obtain ⟨wa, hwa⟩ : ∃ wa, wa = w.alloc (Obj.cells C.toArray 32) := ⟨_, rfl⟩
 have hf0 : Fr [] w wa := by rw [hwa]; exact (Fr.refl [] w).alloc _
 have hb0 : Blk wa w.heap.size 32 x.cells.toArray := by rw [hwa, hC]; exact Blk.new _ _ _
 have HALL : Hid (wa.rangeAt w.heap.size 0 C) := Lib.hid (by rw [← hC]; exact hb0.range)
 have HLN : Hid (C.length = 38) := Lib.hid (by rw [← hC]; exact Wst.len hx.h)
 have hat := Wst.at_of (o := 0) hb0.range hx.h
 have HAT := Lib.hid hat
 have HX := Lib.hid hx
 have HRC := Lib.hid hC
 clear hb0 hx hC hat
 have HF0 := Lib.hid hf0
 have HWA := Lib.hid hwa
 clear hwa hf0
 go_enter Tryz.func32, Tryz.ntmps32
 go_wp2
 rw [← HWA.out]
 refine wp_region_held_drew (S := Fr [] wa) (by kernel_rfl) (Fr.drew (Fr.refl _ wa)) (fun hHeld => ?_)
 have HFD : Hid (Fr [] wa wa.drew) := Lib.hid (Fr.drew (Fr.refl [] wa))
 generalize wa.drew = wd at *
 refine row_at (i := 0) rfl (by kernel_rfl) (by rfl) _ _ rfl _ _ rfl _ (fun w1 hw1 => hw1.range (HALL.out) (by simp)) (row_stamp.of HLN.out) (fun _ _ _ h => h) hHeld ?_
 simp only [xPa, xPb, xPc, xPd, xPe]
 refine run_at (i := 2) (v := ?_) rfl (by kernel_rfl) (by rfl) (fun _ _ _ h => h) hHeld (fun w1 hw1 => ?_) ?_
 rotate_left 1
 · skip
   go_simp
   try first | with_reducible rfl | apply And.intro <;> rfl
 simp only [xPa, xPb, xPc, xPd, xPe]
 refine row_at (i := 3) rfl (by kernel_rfl) (by rfl) _ _ rfl _ _ rfl _ (fun w1 hw1 => hw1.range (HAT.out.sig) (by simp)) (row_sig) (fun _ _ _ h => h) hHeld ?_
 simp only [xPa, xPb, xPc, xPd, xPe]
 refine call_at (i := 1) (f := ?_) (args := ?_) rfl (by kernel_rfl) (by rfl) ?_ ?_
 rotate_left 2
 · go_simp
   try first | with_reducible rfl | apply And.intro <;> rfl
 refine (refbare_any x HX.out C HRC.out wd).mono ?_
 rintro e w1 ⟨A1, c1, rfl, hN⟩
 obtain ⟨n1, hn1⟩ : ∃ nn_, nn_ = (x.bare).length := ⟨_, rfl⟩
 obtain ⟨l1, hl1⟩ : ∃ ll_, ll_ = x.bare := ⟨_, rfl⟩
 rw [← hn1] at hN ⊢
 rw [← hl1] at hN
 have HB1 : Hid (n1 ≤ 20000) := Lib.hid (by rw [hn1]; have := Wst.bare_len HX.out; omega)
 have HL1 := Lib.hid hl1
 refine ⟨_, rfl, hHeld.go hN.2.1 (by simp), fun hHeld => ?_⟩
 simp only [xPa, xPb, xPc, xPd, xPe]
 have HY1 := Lib.hid hN.by
 have HFD := Lib.hid (HFD.out.and hN.2.1 (by simp))
 clear hN hn1 hl1
 refine call_at (i := 4) (f := ?_) (args := ?_) rfl (by kernel_rfl) (by rfl) ?_ ?_
 rotate_left 2
 · go_simp
   try first | with_reducible rfl | apply And.intro <;> rfl
 refine (refsig_any x.b x.m HX.out.b HX.out.m w1).mono ?_
 rintro e w4 ⟨A4, c4, rfl, hN⟩
 obtain ⟨n4, hn4⟩ : ∃ nn_, nn_ = (sgL x.b x.m).length := ⟨_, rfl⟩
 obtain ⟨l4, hl4⟩ : ∃ ll_, ll_ = sgL x.b x.m := ⟨_, rfl⟩
 rw [← hn4] at hN ⊢
 rw [← hl4] at hN
 have HB4 : Hid (n4 ≤ 20000) := Lib.hid (by rw [hn4]; have := encI_len x.b HX.out.b.2; have := encI_len x.m HX.out.m.2; simp only [sgL, List.length_append]; omega)
 have HL4 := Lib.hid hl4
 refine ⟨_, rfl, hHeld.go hN.2.1 (by simp), fun hHeld => ?_⟩
 simp only [xPa, xPb, xPc, xPd, xPe]
 have HY4 := Lib.hid hN.by
 have HFD := Lib.hid (HFD.out.and hN.2.1 (by simp))
 have HY1 := Lib.hid (Fr.byk hN.2.1 HY1.out)
 clear hN hn4 hl4
 refine step_at (i := 5) rfl (by kernel_rfl) (by rfl) (fun K hK => ?_)
 refine wp_run (v := ?_) (w' := ?_) ?_ ?_
 rotate_left 2
 · go_simp
   try first | with_reducible rfl | apply And.intro <;> rfl
 refine hK.out _ (w4.alloc (Obj.cells #[.slice A1 n1 c1, .slice A4 n4 c4] 52)) (hHeld.alloc _) (fun hHeld => ?_)
 clear hK K
 simp only [xPa, xPb, xPc, xPd, xPe]
 have hfb : Fr [] w4 (w4.alloc (Obj.cells #[.slice A1 n1 c1, .slice A4 n4 c4] 52)) := (Fr.refl [] w4).alloc _
 have hbb : Blk (w4.alloc (Obj.cells #[.slice A1 n1 c1, .slice A4 n4 c4] 52)) w4.heap.size 52 (([⟨A1, n1, c1, l1⟩, ⟨A4, n4, c4, l4⟩] : List RowV).map RowV.val).toArray := Blk.new _ _ _
 generalize w4.alloc (Obj.cells #[.slice A1 n1 c1, .slice A4 n4 c4] 52) = wj at *
 have HFD := Lib.hid (HFD.out.and hfb (by simp))
 have hj := join_big w4.heap.size 2 [⟨A1, n1, c1, l1⟩, ⟨A4, n4, c4, l4⟩] wj hbb rfl (by omega) (by
  intro r hr
  simp only [List.mem_cons, List.not_mem_nil, or_false] at hr
  rcases hr with rfl | rfl
  · exact ⟨Fr.byk hfb HY1.out, HB1.out⟩
  · exact ⟨Fr.byk hfb HY4.out, HB4.out⟩)
 have hJ : joinL [⟨A1, n1, c1, l1⟩, ⟨A4, n4, c4, l4⟩] = x.full := by
  simp only [joinL, List.map_cons, List.map_nil, List.flatten_cons, List.flatten_nil, HL1.out, HL4.out]
  simp [Wst.full]
 rw [hJ] at hj
 obtain ⟨X, hX⟩ : ∃ X, X = x.full := ⟨_, rfl⟩
 rw [← hX] at hj
 have HXT := Lib.hid hX
 clear hX
 have HJ := Lib.hid hj
 clear hfb hbb hj hJ HY1 HL1 HY4 HL4
 refine call_at (i := 6) (f := ?_) (args := ?_) rfl (by kernel_rfl) (by rfl) ?_ ?_
 rotate_left 2
 · go_simp
   try first | with_reducible rfl | apply And.intro <;> rfl
 refine HJ.out.mono ?_
 rintro e wk ⟨Aj, cj, rfl, hN⟩
 have HN := Lib.hid (hN.from2 (HF0.out.and HFD.out (by simp)))
 refine ⟨_, rfl, hHeld.go hN.2.1 (by simp), fun hHeld => ?_⟩
 clear hN
 simp only [xPa, xPb, xPc, xPd, xPe]
 refine run_at (i := 7) (v := ?_) rfl (by kernel_rfl) (by rfl) (fun _ _ _ h => h) hHeld (fun w1 hw1 => ?_) ?_
 rotate_left 1
 · skip
   go_simp
   try first | with_reducible rfl | apply And.intro <;> rfl
 simp only [xPa, xPb, xPc, xPd, xPe]
 refine wpAnyH_done (by kernel_rfl) ?_ _
 go_wp2
 go_ret
 rw [← HXT.out]
 exact ⟨Aj, cj, rfl, HN.out⟩
end Go.Proofs.YtpcnedpheplofaaGreat
