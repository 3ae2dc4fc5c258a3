/- The walk of WireApart. -/
import Derived.Test.YtdgbcdmooklciaaApt
import Derived.Test.YtdgbcdmooklciaaEqX
import Derived.Test.YtdgbcdmooklciaaRegT
import Derived.StillTailTactics
namespace Go.Proofs.Ytdgbcdmooklciaa
open Go.RowKit
set_option maxRecDepth 100000

theorem encI_tiny {z : Int} (h0 : 0 ≤ z) (h : z < 128) : encI z = [UInt8.ofNat z.toNat] := by
  unfold encI
  exact enc_small (by omega)
theorem ofNat_inj {a b : Nat} (ha : a < 256) (hb : b < 256) (h : UInt8.ofNat a = UInt8.ofNat b) : a = b := by
  have := congrArg UInt8.toNat h
  rw [UInt8.toNat_ofNat', UInt8.toNat_ofNat'] at this
  omega
theorem int_inj {a b : Int} (ha : 0 ≤ a ∧ a < 128) (hb : 0 ≤ b ∧ b < 128) (h : UInt8.ofNat a.toNat = UInt8.ofNat b.toNat) : a = b := by
  have := ofNat_inj (by omega) (by omega) h
  omega
def tn (z : Int) : Prop := 0 ≤ z ∧ z < 128
structure Wst.Tiny (x : Wst) : Prop where
  r : tn x.r
  c : tn x.c
  s : tn x.s
  h : x.h.length = 32
  t : x.t < 128
  b : x.b = 0
  m : x.m = 0
structure Wvt.Tiny (x : Wvt) : Prop where
  k : tn x.k
  e : tn x.e
  r : tn x.r
  p : tn x.p
  h : x.h.length = 32
  b : x.b = 0
  m : x.m = 0
structure Wdn.Tiny (x : Wdn) : Prop where
  r : tn x.r
  i : tn x.i
  b : x.b = 0
  m : x.m = 0
theorem tn.ok {z : Int} (h : tn z) : i64In z := ⟨by have := h.1; omega, by have := h.2; omega⟩
theorem zero_ok {z : Int} (h : z = 0) : i64In z := ⟨by omega, by omega⟩
theorem Wst.Tiny.ok {x : Wst} (h : x.Tiny) : x.Ok := ⟨h.r.ok, h.c.ok, h.s.ok, h.h, by have := h.t; omega, zero_ok h.b, zero_ok h.m⟩
theorem Wvt.Tiny.ok {x : Wvt} (h : x.Tiny) : x.Ok := ⟨h.k.ok, h.e.ok, h.r.ok, h.p.ok, h.h, zero_ok h.b, zero_ok h.m⟩
theorem Wdn.Tiny.ok {x : Wdn} (h : x.Tiny) : x.Ok := ⟨h.r.ok, h.i.ok, zero_ok h.b, zero_ok h.m⟩
theorem tn_mod (a : Int) (n : Int) (h : 0 < n) (h2 : n ≤ 100) : tn (a % n) := ⟨Int.emod_nonneg _ (by omega), by have := Int.emod_lt_of_pos a h; omega⟩
theorem Wst.small_tiny (x : Wst) : x.small.Tiny := ⟨tn_mod _ _ (by omega) (by omega), tn_mod _ _ (by omega) (by omega), tn_mod _ _ (by omega) (by omega), rfl, by show x.t % 3 < 128; omega, rfl, rfl⟩
theorem Wvt.small_tiny (x : Wvt) : x.small.Tiny :=
  ⟨⟨by show (0 : Int) ≤ 1 + x.k % 2; have := (tn_mod x.k 2 (by omega) (by omega)).1; omega, by show 1 + x.k % 2 < (128 : Int); have := Int.emod_lt_of_pos x.k (show (0 : Int) < 2 by omega); omega⟩, tn_mod _ _ (by omega) (by omega), tn_mod _ _ (by omega) (by omega), tn_mod _ _ (by omega) (by omega), rfl, rfl, rfl⟩
theorem app_cut {α : Type} {a b c d : List α} (h : a ++ b = c ++ d) (hl : a.length = c.length) : a = c ∧ b = d := List.append_inj h hl
theorem Wst.text_inj {x y : Wst} (hx : x.Tiny) (hy : y.Tiny) : x.text = y.text ↔ x = y := by
  constructor
  · intro h
    simp only [Wst.text, Wst.bare, nmL, encI_tiny hx.r.1 hx.r.2, encI_tiny hx.c.1 hx.c.2, encI_tiny hx.s.1 hx.s.2, encI_tiny hy.r.1 hy.r.2, encI_tiny hy.c.1 hy.c.2, encI_tiny hy.s.1 hy.s.2, enc_small hx.t, enc_small hy.t, List.append_assoc] at h
    have h := List.append_cancel_left (List.append_cancel_left h)
    simp only [List.cons_append, List.nil_append, List.cons.injEq] at h
    obtain ⟨h1, h2, h3, h4⟩ := h
    obtain ⟨h4, h5⟩ := app_cut h4 (by rw [hx.h, hy.h])
    simp only [List.cons.injEq, and_true] at h5
    have e1 := int_inj hx.r hy.r h1
    have e2 := int_inj hx.c hy.c h2
    have e3 := int_inj hx.s hy.s h3
    have e5 := ofNat_inj (by have := hx.t; omega) (by have := hy.t; omega) h5
    have a1 := hx.b
    have a2 := hx.m
    have b1 := hy.b
    have b2 := hy.m
    obtain ⟨_, _, _, _, _, _, _⟩ := x
    obtain ⟨_, _, _, _, _, _, _⟩ := y
    simp only at *
    subst e1 e2 e3 h4 e5 a1 a2
    rw [b1, b2]
  · rintro rfl
    rfl
theorem Wvt.text_inj {x y : Wvt} (hx : x.Tiny) (hy : y.Tiny) : x.text = y.text ↔ x = y := by
  constructor
  · intro h
    simp only [Wvt.text, Wvt.bare, encI_tiny hx.k.1 hx.k.2, encI_tiny hx.e.1 hx.e.2, encI_tiny hx.r.1 hx.r.2, encI_tiny hx.p.1 hx.p.2, encI_tiny hy.k.1 hy.k.2, encI_tiny hy.e.1 hy.e.2, encI_tiny hy.r.1 hy.r.2, encI_tiny hy.p.1 hy.p.2, List.append_assoc] at h
    have h := List.append_cancel_left (List.append_cancel_left h)
    simp only [List.cons_append, List.nil_append, List.cons.injEq] at h
    obtain ⟨h1, h2, h3, h4, h5⟩ := h
    have e1 := int_inj hx.k hy.k h1
    have e2 := int_inj hx.e hy.e h2
    have e3 := int_inj hx.r hy.r h3
    have e4 := int_inj hx.p hy.p h4
    have a1 := hx.b
    have a2 := hx.m
    have b1 := hy.b
    have b2 := hy.m
    obtain ⟨_, _, _, _, _, _, _⟩ := x
    obtain ⟨_, _, _, _, _, _, _⟩ := y
    simp only at *
    subst e1 e2 e3 e4 h5 a1 a2
    rw [b1, b2]
  · rintro rfl
    rfl
theorem Wdn.text_inj {x y : Wdn} (hx : x.Tiny) (hy : y.Tiny) : x.text = y.text ↔ x = y := by
  constructor
  · intro h
    simp only [Wdn.text, Wdn.bare, encI_tiny hx.r.1 hx.r.2, encI_tiny hx.i.1 hx.i.2, encI_tiny hy.r.1 hy.r.2, encI_tiny hy.i.1 hy.i.2, List.append_assoc] at h
    have h := List.append_cancel_left (List.append_cancel_left h)
    simp only [List.cons_append, List.nil_append, List.cons.injEq, and_true] at h
    obtain ⟨h1, h2⟩ := h
    have e1 := int_inj hx.r hy.r h1
    have e2 := int_inj hx.i hy.i h2
    have a1 := hx.b
    have a2 := hx.m
    have b1 := hy.b
    have b2 := hy.m
    obtain ⟨_, _, _, _⟩ := x
    obtain ⟨_, _, _, _⟩ := y
    simp only at *
    subst e1 e2 a1 a2
    rw [b1, b2]
  · rintro rfl
    rfl
theorem enc5 : enc 5 = [5] := enc_small (by decide)
theorem enc4 : enc 4 = [4] := enc_small (by decide)
theorem enc3 : enc 3 = [3] := enc_small (by decide)
theorem sv_ne (x : Wst) (y : Wvt) : ¬ x.text = y.text := fun h => by
  simp only [Wst.text, Wvt.text, show wWst.length = 5 from rfl, show wWvt.length = 4 from rfl, enc5, enc4, List.cons_append, List.nil_append, List.cons.injEq] at h
  exact absurd h.1 (by decide)
theorem sd_ne (x : Wst) (y : Wdn) : ¬ x.text = y.text := fun h => by
  simp only [Wst.text, Wdn.text, show wWst.length = 5 from rfl, show wWdn.length = 4 from rfl, enc5, enc4, List.cons_append, List.nil_append, List.cons.injEq] at h
  exact absurd h.1 (by decide)
theorem vd_ne (x : Wvt) (y : Wdn) : ¬ x.text = y.text := fun h => by
  simp only [Wvt.text, Wdn.text, wWvt, wWdn, List.cons_append, List.append_assoc, List.cons.injEq] at h
  have h := (List.append_cancel_left h)
  simp only [List.cons_append, List.nil_append, List.cons.injEq] at h
  exact absurd h.1 (by decide)
theorem sa_ne (x y : Wst) : ¬ x.text = y.ack := fun h => by
  simp only [Wst.text, Wst.ack, show wWst.length = 5 from rfl, show wAck.length = 3 from rfl, enc5, enc3, List.cons_append, List.nil_append, List.cons.injEq] at h
  exact absurd h.1 (by decide)
def Wdn.small (x : Wdn) : Wdn := ⟨x.r % 4, x.i % 4, 0, 0⟩
theorem Wdn.small_tiny (x : Wdn) : x.small.Tiny := ⟨tn_mod _ _ (by omega) (by omega), tn_mod _ _ (by omega) (by omega), rfl, rfl⟩
theorem built_ackS (x : Wst) : Try.prog.built 99 [(0, .int .i64 x.small.r), (1, .agg #[.int .i64 x.small.c, .int .i64 x.small.s]), (2, .agg (x.small.h.map by8).toArray), (3, .int .u64 (x.small.t : Int))] = some x.small.cells.toArray := by kernel_rfl
theorem smallStamp_c (x : Wst) (hx : x.Ok) (w : World) : Calls Try.prog 45 #[.agg x.cells.toArray] w fun e w' => e = .returned (.agg x.small.cells.toArray) ∧ Fr [] w w' := smallStamp_any x hx w
theorem smallVote_c (x : Wvt) (hx : x.Ok) (w : World) : Calls Try.prog 46 #[.agg x.cells.toArray] w fun e w' => e = .returned (.agg x.small.cells.toArray) ∧ Fr [] w w' := smallVote_any x hx w

set_option maxHeartbeats 8000000 in
theorem wireApart_walk (w : World) (s : Wst) (hs : s.Ok) (t : Wst) (ht : t.Ok) (v : Wvt) (hv : v.Ok) (z : Wvt) (hz : z.Ok) (d : Wdn) (hd : d.Ok) (e : Wdn) (he : e.Ok) :
    Calls Try.prog 6 #[.agg s.cells.toArray, .agg t.cells.toArray, .agg v.cells.toArray, .agg z.cells.toArray, .agg d.cells.toArray, .agg e.cells.toArray] w fun e w' => e = .returned (.bool true) ∧ Fr [] w w' := by
  obtain ⟨wa, hwa⟩ : ∃ wa, wa = (((((((((((w.alloc (Obj.cells s.cells.toArray 87))).alloc (Obj.cells t.cells.toArray 87))).alloc (Obj.cells v.cells.toArray 89))).alloc (Obj.cells z.cells.toArray 89))).alloc (Obj.cells d.cells.toArray 91))).alloc (Obj.cells e.cells.toArray 91)) := ⟨_, rfl⟩
  have hf0 : Fr [] w wa := by rw [hwa]; exact ((((((Fr.refl [] w).alloc _).alloc _).alloc _).alloc _).alloc _).alloc _
  have hb0 : Blk wa (w.heap.size) 87 s.cells.toArray := by
    have := blk_alloc (t' := 91) (cs' := e.cells.toArray) (blk_alloc (t' := 91) (cs' := d.cells.toArray) (blk_alloc (t' := 89) (cs' := z.cells.toArray) (blk_alloc (t' := 89) (cs' := v.cells.toArray) (blk_alloc (t' := 87) (cs' := t.cells.toArray) (Blk.new (w) 87 s.cells.toArray)))))
    rw [hwa]
    simpa using this
  have hb1 : Blk wa (w.heap.size + 1) 87 t.cells.toArray := by
    have := blk_alloc (t' := 91) (cs' := e.cells.toArray) (blk_alloc (t' := 91) (cs' := d.cells.toArray) (blk_alloc (t' := 89) (cs' := z.cells.toArray) (blk_alloc (t' := 89) (cs' := v.cells.toArray) (Blk.new ((w.alloc (Obj.cells s.cells.toArray 87))) 87 t.cells.toArray))))
    rw [hwa]
    simpa using this
  have hb2 : Blk wa (w.heap.size + 2) 89 v.cells.toArray := by
    have := blk_alloc (t' := 91) (cs' := e.cells.toArray) (blk_alloc (t' := 91) (cs' := d.cells.toArray) (blk_alloc (t' := 89) (cs' := z.cells.toArray) (Blk.new ((((w.alloc (Obj.cells s.cells.toArray 87))).alloc (Obj.cells t.cells.toArray 87))) 89 v.cells.toArray)))
    rw [hwa]
    simpa using this
  have hb3 : Blk wa (w.heap.size + 3) 89 z.cells.toArray := by
    have := blk_alloc (t' := 91) (cs' := e.cells.toArray) (blk_alloc (t' := 91) (cs' := d.cells.toArray) (Blk.new ((((((w.alloc (Obj.cells s.cells.toArray 87))).alloc (Obj.cells t.cells.toArray 87))).alloc (Obj.cells v.cells.toArray 89))) 89 z.cells.toArray))
    rw [hwa]
    simpa using this
  have hb4 : Blk wa (w.heap.size + 4) 91 d.cells.toArray := by
    have := blk_alloc (t' := 91) (cs' := e.cells.toArray) (Blk.new ((((((((w.alloc (Obj.cells s.cells.toArray 87))).alloc (Obj.cells t.cells.toArray 87))).alloc (Obj.cells v.cells.toArray 89))).alloc (Obj.cells z.cells.toArray 89))) 91 d.cells.toArray)
    rw [hwa]
    simpa using this
  have hb5 : Blk wa (w.heap.size + 5) 91 e.cells.toArray := by
    have := Blk.new ((((((((((w.alloc (Obj.cells s.cells.toArray 87))).alloc (Obj.cells t.cells.toArray 87))).alloc (Obj.cells v.cells.toArray 89))).alloc (Obj.cells z.cells.toArray 89))).alloc (Obj.cells d.cells.toArray 91))) 91 e.cells.toArray
    rw [hwa]
    simpa using this
  have HB0 := Lib.hid hb0
  have HB1 := Lib.hid hb1
  have HB2 := Lib.hid hb2
  have HB3 := Lib.hid hb3
  have HB4 := Lib.hid hb4
  have HB5 := Lib.hid hb5
  have HOs := Lib.hid hs
  have HOt := Lib.hid ht
  have HOv := Lib.hid hv
  have HOz := Lib.hid hz
  have HOd := Lib.hid hd
  have HOe := Lib.hid he
  have HLs := Lib.hid (Wst.len hs.h)
  have HMs := Lib.hid (Wst.len (x := s.small) rfl)
  have HNs := Lib.hid (all_oneCell_toArray s.small.one)
  have HLt := Lib.hid (Wst.len ht.h)
  have HMt := Lib.hid (Wst.len (x := t.small) rfl)
  have HNt := Lib.hid (all_oneCell_toArray t.small.one)
  have HLv := Lib.hid (Wvt.len hv.h)
  have HMv := Lib.hid (Wvt.len (x := v.small) rfl)
  have HNv := Lib.hid (all_oneCell_toArray v.small.one)
  have HLz := Lib.hid (Wvt.len hz.h)
  have HMz := Lib.hid (Wvt.len (x := z.small) rfl)
  have HNz := Lib.hid (all_oneCell_toArray z.small.one)
  have HLd := Lib.hid (Wdn.len d)
  have HMd := Lib.hid (Wdn.len d.small)
  have HNd := Lib.hid (all_oneCell_toArray d.small.one)
  have HLe := Lib.hid (Wdn.len e)
  have HMe := Lib.hid (Wdn.len e.small)
  have HNe := Lib.hid (all_oneCell_toArray e.small.one)
  have HF0 := Lib.hid hf0
  have HWA := Lib.hid hwa
  clear hwa hf0 hb0 hb1 hb2 hb3 hb4 hb5 hs ht hv hz hd he
  go_enter Try.func6, Try.ntmps6
  go_upto_region 1 with (fail)
  change Code.wp _ _ _ _ (((((((((((w.alloc (Obj.cells s.cells.toArray 87))).alloc (Obj.cells t.cells.toArray 87))).alloc (Obj.cells v.cells.toArray 89))).alloc (Obj.cells z.cells.toArray 89))).alloc (Obj.cells d.cells.toArray 91))).alloc (Obj.cells e.cells.toArray 91))
  rw [← HWA.out]
  go_cut [6] (fun s6 wx => s6 = .pointer (some ⟨w.heap.size, 0, none⟩) ∧ Blk wx (w.heap.size) 87 s.small.cells.toArray ∧ Blk wx (w.heap.size + 1) 87 t.small.cells.toArray ∧ Blk wx (w.heap.size + 2) 89 v.cells.toArray ∧ Blk wx (w.heap.size + 3) 89 z.cells.toArray ∧ Blk wx (w.heap.size + 4) 91 d.cells.toArray ∧ Blk wx (w.heap.size + 5) 91 e.cells.toArray ∧ Fr [] w wx)
  case first =>
    refine wp_region_held_drew (S := Fr [w.heap.size, w.heap.size + 1] wa) (by kernel_rfl) (Fr.drew (Fr.refl _ wa)) (fun hHeld => ?_)
    have HFc : Hid (Fr [] wa wa.drew) := Lib.hid (Fr.drew (Fr.refl _ wa))
    refine two_at (i := 0) (j := 2) rfl rfl (by kernel_rfl) (by rfl) (by rfl) (fun K hK => ?_) (fun K hK => ?_)
    focus
      refine wp_row _ _ rfl _ _ rfl _ ((HB0.out.keep HFc.out (by simp)).range) (row_stamp.of HLs.out) ?_
      refine hK.out _ _ hHeld (fun hHeld => ?_)
      clear hK K
      simp only [Act.put, List.setIfInBounds_toArray, List.set_cons_zero, List.set_cons_succ]
      refine two_at (i := 1) (j := 2) rfl rfl (by kernel_rfl) (by rfl) (by rfl) (fun K hK => ?_) (fun K hK => ?_)
      focus
        refine wp_call (f := ?_) (args := ?_) ?_ ?_
        rotate_left 2
        · go_simp
          (try (first | with_reducible rfl | (apply And.intro <;> rfl)))
        refine (smallStamp_c s HOs.out _).mono ?_
        rintro e wc1 ⟨rfl, hfc⟩
        have HFc := Lib.hid (HFc.out.and hfc (by simp))
        refine ⟨_, rfl, hK.out _ _ (HFc.out.mono (by simp)) (fun hHeld => ?_)⟩
        clear hK K
        clear hfc
        simp only [Act.put, List.setIfInBounds_toArray, List.set_cons_zero, List.set_cons_succ]
        refine step_at (i := 2) rfl (by kernel_rfl) (by rfl) (fun K hK => ?_)
        refine wp_row _ _ rfl _ _ rfl _ ((HB1.out.keep HFc.out (by simp)).range) (row_stamp.of HLt.out) ?_
        refine hK.out _ _ hHeld (fun hHeld => ?_)
        clear hK K
        simp only [Act.put, List.setIfInBounds_toArray, List.set_cons_zero, List.set_cons_succ]
        refine call_at (i := 3) (f := ?_) (args := ?_) rfl (by kernel_rfl) (by rfl) ?_ ?_
        rotate_left 2
        · go_simp
          (try (first | with_reducible rfl | (apply And.intro <;> rfl)))
        refine (smallStamp_c t HOt.out _).mono ?_
        rintro e wc2 ⟨rfl, hfc⟩
        have HFc := Lib.hid (HFc.out.and hfc (by simp))
        refine ⟨_, rfl, HFc.out.mono (by simp), fun hHeld => ?_⟩
        clear hfc
        simp only [Act.put, List.setIfInBounds_toArray, List.set_cons_zero, List.set_cons_succ]
        refine step_at (i := 4) rfl (by kernel_rfl) (by rfl) (fun K hK => ?_)
        refine wp_store_blk 87 _ _ rfl (w.heap.size) s.small.cells.toArray rfl rfl 87 s.cells.toArray (HB0.out.keep HFc.out (by simp)) (by rw [List.size_toArray, HMs.out]; kernel_rfl) (by rw [List.size_toArray, List.size_toArray, HMs.out, HLs.out]) HNs.out ?_
        intro ws1 hs1 hfs1
        refine hK.out _ _ (hHeld.trans hfs1 (by intro x hx _; simp at hx; simp [hx])) (fun hHeld => ?_)
        clear hK K
        simp only [Act.put, List.setIfInBounds_toArray, List.set_cons_zero, List.set_cons_succ]
        refine step_at (i := 5) rfl (by kernel_rfl) (by rfl) (fun K hK => ?_)
        refine wp_store_blk 87 _ _ rfl (w.heap.size + 1) t.small.cells.toArray rfl rfl 87 t.cells.toArray ((HB1.out.keep HFc.out (by simp)).keep hfs1 (by simp)) (by rw [List.size_toArray, HMt.out]; kernel_rfl) (by rw [List.size_toArray, List.size_toArray, HMt.out, HLt.out]) HNt.out ?_
        intro ws2 hs2 hfs2
        refine hK.out _ _ (hHeld.trans hfs2 (by intro x hx _; simp at hx; simp [hx])) (fun hHeld => ?_)
        clear hK K
        simp only [Act.put, List.setIfInBounds_toArray, List.set_cons_zero, List.set_cons_succ]
        refine wpAnyH_done (by kernel_rfl) ?_ _
        go_wp2_with fail
        go_meet
        exact ⟨rfl, hs1.keep hfs2 (by simp), hs2, ((HB2.out.keep HFc.out (by simp)).keep hfs1 (by simp)).keep hfs2 (by simp), ((HB3.out.keep HFc.out (by simp)).keep hfs1 (by simp)).keep hfs2 (by simp), ((HB4.out.keep HFc.out (by simp)).keep hfs1 (by simp)).keep hfs2 (by simp), ((HB5.out.keep HFc.out (by simp)).keep hfs1 (by simp)).keep hfs2 (by simp), ((HF0.out.and HFc.out (by simp)).go hfs1 (by simp)).go hfs2 (by simp)⟩
      focus
        refine wp_row _ _ rfl _ _ rfl _ ((HB1.out.keep HFc.out (by simp)).range) (row_stamp.of HLt.out) ?_
        refine hK.out _ _ hHeld (fun hHeld => ?_)
        clear hK K
        simp only [Act.put, List.setIfInBounds_toArray, List.set_cons_zero, List.set_cons_succ]
        refine call_at (i := 1) (f := ?_) (args := ?_) rfl (by kernel_rfl) (by rfl) ?_ ?_
        rotate_left 2
        · go_simp
          (try (first | with_reducible rfl | (apply And.intro <;> rfl)))
        refine (smallStamp_c s HOs.out _).mono ?_
        rintro e wc3 ⟨rfl, hfc⟩
        have HFc := Lib.hid (HFc.out.and hfc (by simp))
        refine ⟨_, rfl, HFc.out.mono (by simp), fun hHeld => ?_⟩
        clear hfc
        simp only [Act.put, List.setIfInBounds_toArray, List.set_cons_zero, List.set_cons_succ]
        refine call_at (i := 3) (f := ?_) (args := ?_) rfl (by kernel_rfl) (by rfl) ?_ ?_
        rotate_left 2
        · go_simp
          (try (first | with_reducible rfl | (apply And.intro <;> rfl)))
        refine (smallStamp_c t HOt.out _).mono ?_
        rintro e wc4 ⟨rfl, hfc⟩
        have HFc := Lib.hid (HFc.out.and hfc (by simp))
        refine ⟨_, rfl, HFc.out.mono (by simp), fun hHeld => ?_⟩
        clear hfc
        simp only [Act.put, List.setIfInBounds_toArray, List.set_cons_zero, List.set_cons_succ]
        refine step_at (i := 4) rfl (by kernel_rfl) (by rfl) (fun K hK => ?_)
        refine wp_store_blk 87 _ _ rfl (w.heap.size) s.small.cells.toArray rfl rfl 87 s.cells.toArray (HB0.out.keep HFc.out (by simp)) (by rw [List.size_toArray, HMs.out]; kernel_rfl) (by rw [List.size_toArray, List.size_toArray, HMs.out, HLs.out]) HNs.out ?_
        intro ws1 hs1 hfs1
        refine hK.out _ _ (hHeld.trans hfs1 (by intro x hx _; simp at hx; simp [hx])) (fun hHeld => ?_)
        clear hK K
        simp only [Act.put, List.setIfInBounds_toArray, List.set_cons_zero, List.set_cons_succ]
        refine step_at (i := 5) rfl (by kernel_rfl) (by rfl) (fun K hK => ?_)
        refine wp_store_blk 87 _ _ rfl (w.heap.size + 1) t.small.cells.toArray rfl rfl 87 t.cells.toArray ((HB1.out.keep HFc.out (by simp)).keep hfs1 (by simp)) (by rw [List.size_toArray, HMt.out]; kernel_rfl) (by rw [List.size_toArray, List.size_toArray, HMt.out, HLt.out]) HNt.out ?_
        intro ws2 hs2 hfs2
        refine hK.out _ _ (hHeld.trans hfs2 (by intro x hx _; simp at hx; simp [hx])) (fun hHeld => ?_)
        clear hK K
        simp only [Act.put, List.setIfInBounds_toArray, List.set_cons_zero, List.set_cons_succ]
        refine wpAnyH_done (by kernel_rfl) ?_ _
        go_wp2_with fail
        go_meet
        exact ⟨rfl, hs1.keep hfs2 (by simp), hs2, ((HB2.out.keep HFc.out (by simp)).keep hfs1 (by simp)).keep hfs2 (by simp), ((HB3.out.keep HFc.out (by simp)).keep hfs1 (by simp)).keep hfs2 (by simp), ((HB4.out.keep HFc.out (by simp)).keep hfs1 (by simp)).keep hfs2 (by simp), ((HB5.out.keep HFc.out (by simp)).keep hfs1 (by simp)).keep hfs2 (by simp), ((HF0.out.and HFc.out (by simp)).go hfs1 (by simp)).go hfs2 (by simp)⟩
    focus
      refine wp_row _ _ rfl _ _ rfl _ ((HB1.out.keep HFc.out (by simp)).range) (row_stamp.of HLt.out) ?_
      refine hK.out _ _ hHeld (fun hHeld => ?_)
      clear hK K
      simp only [Act.put, List.setIfInBounds_toArray, List.set_cons_zero, List.set_cons_succ]
      refine step_at (i := 0) rfl (by kernel_rfl) (by rfl) (fun K hK => ?_)
      refine wp_row _ _ rfl _ _ rfl _ ((HB0.out.keep HFc.out (by simp)).range) (row_stamp.of HLs.out) ?_
      refine hK.out _ _ hHeld (fun hHeld => ?_)
      clear hK K
      simp only [Act.put, List.setIfInBounds_toArray, List.set_cons_zero, List.set_cons_succ]
      refine call_at (i := 1) (f := ?_) (args := ?_) rfl (by kernel_rfl) (by rfl) ?_ ?_
      rotate_left 2
      · go_simp
        (try (first | with_reducible rfl | (apply And.intro <;> rfl)))
      refine (smallStamp_c s HOs.out _).mono ?_
      rintro e wc5 ⟨rfl, hfc⟩
      have HFc := Lib.hid (HFc.out.and hfc (by simp))
      refine ⟨_, rfl, HFc.out.mono (by simp), fun hHeld => ?_⟩
      clear hfc
      simp only [Act.put, List.setIfInBounds_toArray, List.set_cons_zero, List.set_cons_succ]
      refine call_at (i := 3) (f := ?_) (args := ?_) rfl (by kernel_rfl) (by rfl) ?_ ?_
      rotate_left 2
      · go_simp
        (try (first | with_reducible rfl | (apply And.intro <;> rfl)))
      refine (smallStamp_c t HOt.out _).mono ?_
      rintro e wc6 ⟨rfl, hfc⟩
      have HFc := Lib.hid (HFc.out.and hfc (by simp))
      refine ⟨_, rfl, HFc.out.mono (by simp), fun hHeld => ?_⟩
      clear hfc
      simp only [Act.put, List.setIfInBounds_toArray, List.set_cons_zero, List.set_cons_succ]
      refine step_at (i := 4) rfl (by kernel_rfl) (by rfl) (fun K hK => ?_)
      refine wp_store_blk 87 _ _ rfl (w.heap.size) s.small.cells.toArray rfl rfl 87 s.cells.toArray (HB0.out.keep HFc.out (by simp)) (by rw [List.size_toArray, HMs.out]; kernel_rfl) (by rw [List.size_toArray, List.size_toArray, HMs.out, HLs.out]) HNs.out ?_
      intro ws1 hs1 hfs1
      refine hK.out _ _ (hHeld.trans hfs1 (by intro x hx _; simp at hx; simp [hx])) (fun hHeld => ?_)
      clear hK K
      simp only [Act.put, List.setIfInBounds_toArray, List.set_cons_zero, List.set_cons_succ]
      refine step_at (i := 5) rfl (by kernel_rfl) (by rfl) (fun K hK => ?_)
      refine wp_store_blk 87 _ _ rfl (w.heap.size + 1) t.small.cells.toArray rfl rfl 87 t.cells.toArray ((HB1.out.keep HFc.out (by simp)).keep hfs1 (by simp)) (by rw [List.size_toArray, HMt.out]; kernel_rfl) (by rw [List.size_toArray, List.size_toArray, HMt.out, HLt.out]) HNt.out ?_
      intro ws2 hs2 hfs2
      refine hK.out _ _ (hHeld.trans hfs2 (by intro x hx _; simp at hx; simp [hx])) (fun hHeld => ?_)
      clear hK K
      simp only [Act.put, List.setIfInBounds_toArray, List.set_cons_zero, List.set_cons_succ]
      refine wpAnyH_done (by kernel_rfl) ?_ _
      go_wp2_with fail
      go_meet
      exact ⟨rfl, hs1.keep hfs2 (by simp), hs2, ((HB2.out.keep HFc.out (by simp)).keep hfs1 (by simp)).keep hfs2 (by simp), ((HB3.out.keep HFc.out (by simp)).keep hfs1 (by simp)).keep hfs2 (by simp), ((HB4.out.keep HFc.out (by simp)).keep hfs1 (by simp)).keep hfs2 (by simp), ((HB5.out.keep HFc.out (by simp)).keep hfs1 (by simp)).keep hfs2 (by simp), ((HF0.out.and HFc.out (by simp)).go hfs1 (by simp)).go hfs2 (by simp)⟩
  case rest =>
    obtain ⟨rfl, hb0, hb1, hb2, hb3, hb4, hb5, hf⟩ := hcut
    obtain ⟨w1, hw1⟩ : ∃ w1, w1 = wc := ⟨_, rfl⟩
    subst hw1
    clear HB0 HB1 HB2 HB3 HB4 HB5
    have HB0 := Lib.hid hb0
    have HB1 := Lib.hid hb1
    have HB2 := Lib.hid hb2
    have HB3 := Lib.hid hb3
    have HB4 := Lib.hid hb4
    have HB5 := Lib.hid hb5
    have HF := Lib.hid hf
    clear hf hb0 hb1 hb2 hb3 hb4 hb5
    go_upto_region 2 with (fail)
    go_cut [8] (fun s8 wx => s8 = .pointer (some ⟨w.heap.size + 2, 0, none⟩) ∧ Blk wx (w.heap.size) 87 s.small.cells.toArray ∧ Blk wx (w.heap.size + 1) 87 t.small.cells.toArray ∧ Blk wx (w.heap.size + 2) 89 v.small.cells.toArray ∧ Blk wx (w.heap.size + 3) 89 z.small.cells.toArray ∧ Blk wx (w.heap.size + 4) 91 d.cells.toArray ∧ Blk wx (w.heap.size + 5) 91 e.cells.toArray ∧ Fr [] w wx)
    case first =>
      refine wp_region_held_drew (S := Fr [w.heap.size + 2, w.heap.size + 3] w1) (by kernel_rfl) (Fr.drew (Fr.refl _ w1)) (fun hHeld => ?_)
      have HFc : Hid (Fr [] w1 w1.drew) := Lib.hid (Fr.drew (Fr.refl _ w1))
      refine two_at (i := 0) (j := 2) rfl rfl (by kernel_rfl) (by rfl) (by rfl) (fun K hK => ?_) (fun K hK => ?_)
      focus
        refine wp_row _ _ rfl _ _ rfl _ ((HB2.out.keep HFc.out (by simp)).range) (row_vote.of HLv.out) ?_
        refine hK.out _ _ hHeld (fun hHeld => ?_)
        clear hK K
        simp only [Act.put, List.setIfInBounds_toArray, List.set_cons_zero, List.set_cons_succ]
        refine two_at (i := 1) (j := 2) rfl rfl (by kernel_rfl) (by rfl) (by rfl) (fun K hK => ?_) (fun K hK => ?_)
        focus
          refine wp_call (f := ?_) (args := ?_) ?_ ?_
          rotate_left 2
          · go_simp
            (try (first | with_reducible rfl | (apply And.intro <;> rfl)))
          refine (smallVote_c v HOv.out _).mono ?_
          rintro e wc1 ⟨rfl, hfc⟩
          have HFc := Lib.hid (HFc.out.and hfc (by simp))
          refine ⟨_, rfl, hK.out _ _ (HFc.out.mono (by simp)) (fun hHeld => ?_)⟩
          clear hK K
          clear hfc
          simp only [Act.put, List.setIfInBounds_toArray, List.set_cons_zero, List.set_cons_succ]
          refine step_at (i := 2) rfl (by kernel_rfl) (by rfl) (fun K hK => ?_)
          refine wp_row _ _ rfl _ _ rfl _ ((HB3.out.keep HFc.out (by simp)).range) (row_vote.of HLz.out) ?_
          refine hK.out _ _ hHeld (fun hHeld => ?_)
          clear hK K
          simp only [Act.put, List.setIfInBounds_toArray, List.set_cons_zero, List.set_cons_succ]
          refine call_at (i := 3) (f := ?_) (args := ?_) rfl (by kernel_rfl) (by rfl) ?_ ?_
          rotate_left 2
          · go_simp
            (try (first | with_reducible rfl | (apply And.intro <;> rfl)))
          refine (smallVote_c z HOz.out _).mono ?_
          rintro e wc2 ⟨rfl, hfc⟩
          have HFc := Lib.hid (HFc.out.and hfc (by simp))
          refine ⟨_, rfl, HFc.out.mono (by simp), fun hHeld => ?_⟩
          clear hfc
          simp only [Act.put, List.setIfInBounds_toArray, List.set_cons_zero, List.set_cons_succ]
          refine step_at (i := 4) rfl (by kernel_rfl) (by rfl) (fun K hK => ?_)
          refine wp_store_blk 89 _ _ rfl (w.heap.size + 2) v.small.cells.toArray rfl rfl 89 v.cells.toArray (HB2.out.keep HFc.out (by simp)) (by rw [List.size_toArray, HMv.out]; kernel_rfl) (by rw [List.size_toArray, List.size_toArray, HMv.out, HLv.out]) HNv.out ?_
          intro ws1 hs1 hfs1
          refine hK.out _ _ (hHeld.trans hfs1 (by intro x hx _; simp at hx; simp [hx])) (fun hHeld => ?_)
          clear hK K
          simp only [Act.put, List.setIfInBounds_toArray, List.set_cons_zero, List.set_cons_succ]
          refine step_at (i := 5) rfl (by kernel_rfl) (by rfl) (fun K hK => ?_)
          refine wp_store_blk 89 _ _ rfl (w.heap.size + 3) z.small.cells.toArray rfl rfl 89 z.cells.toArray ((HB3.out.keep HFc.out (by simp)).keep hfs1 (by simp)) (by rw [List.size_toArray, HMz.out]; kernel_rfl) (by rw [List.size_toArray, List.size_toArray, HMz.out, HLz.out]) HNz.out ?_
          intro ws2 hs2 hfs2
          refine hK.out _ _ (hHeld.trans hfs2 (by intro x hx _; simp at hx; simp [hx])) (fun hHeld => ?_)
          clear hK K
          simp only [Act.put, List.setIfInBounds_toArray, List.set_cons_zero, List.set_cons_succ]
          refine wpAnyH_done (by kernel_rfl) ?_ _
          go_wp2_with fail
          go_meet
          exact ⟨rfl, ((HB0.out.keep HFc.out (by simp)).keep hfs1 (by simp)).keep hfs2 (by simp), ((HB1.out.keep HFc.out (by simp)).keep hfs1 (by simp)).keep hfs2 (by simp), hs1.keep hfs2 (by simp), hs2, ((HB4.out.keep HFc.out (by simp)).keep hfs1 (by simp)).keep hfs2 (by simp), ((HB5.out.keep HFc.out (by simp)).keep hfs1 (by simp)).keep hfs2 (by simp), ((HF.out.and HFc.out (by simp)).go hfs1 (by simp)).go hfs2 (by simp)⟩
        focus
          refine wp_row _ _ rfl _ _ rfl _ ((HB3.out.keep HFc.out (by simp)).range) (row_vote.of HLz.out) ?_
          refine hK.out _ _ hHeld (fun hHeld => ?_)
          clear hK K
          simp only [Act.put, List.setIfInBounds_toArray, List.set_cons_zero, List.set_cons_succ]
          refine call_at (i := 1) (f := ?_) (args := ?_) rfl (by kernel_rfl) (by rfl) ?_ ?_
          rotate_left 2
          · go_simp
            (try (first | with_reducible rfl | (apply And.intro <;> rfl)))
          refine (smallVote_c v HOv.out _).mono ?_
          rintro e wc3 ⟨rfl, hfc⟩
          have HFc := Lib.hid (HFc.out.and hfc (by simp))
          refine ⟨_, rfl, HFc.out.mono (by simp), fun hHeld => ?_⟩
          clear hfc
          simp only [Act.put, List.setIfInBounds_toArray, List.set_cons_zero, List.set_cons_succ]
          refine call_at (i := 3) (f := ?_) (args := ?_) rfl (by kernel_rfl) (by rfl) ?_ ?_
          rotate_left 2
          · go_simp
            (try (first | with_reducible rfl | (apply And.intro <;> rfl)))
          refine (smallVote_c z HOz.out _).mono ?_
          rintro e wc4 ⟨rfl, hfc⟩
          have HFc := Lib.hid (HFc.out.and hfc (by simp))
          refine ⟨_, rfl, HFc.out.mono (by simp), fun hHeld => ?_⟩
          clear hfc
          simp only [Act.put, List.setIfInBounds_toArray, List.set_cons_zero, List.set_cons_succ]
          refine step_at (i := 4) rfl (by kernel_rfl) (by rfl) (fun K hK => ?_)
          refine wp_store_blk 89 _ _ rfl (w.heap.size + 2) v.small.cells.toArray rfl rfl 89 v.cells.toArray (HB2.out.keep HFc.out (by simp)) (by rw [List.size_toArray, HMv.out]; kernel_rfl) (by rw [List.size_toArray, List.size_toArray, HMv.out, HLv.out]) HNv.out ?_
          intro ws1 hs1 hfs1
          refine hK.out _ _ (hHeld.trans hfs1 (by intro x hx _; simp at hx; simp [hx])) (fun hHeld => ?_)
          clear hK K
          simp only [Act.put, List.setIfInBounds_toArray, List.set_cons_zero, List.set_cons_succ]
          refine step_at (i := 5) rfl (by kernel_rfl) (by rfl) (fun K hK => ?_)
          refine wp_store_blk 89 _ _ rfl (w.heap.size + 3) z.small.cells.toArray rfl rfl 89 z.cells.toArray ((HB3.out.keep HFc.out (by simp)).keep hfs1 (by simp)) (by rw [List.size_toArray, HMz.out]; kernel_rfl) (by rw [List.size_toArray, List.size_toArray, HMz.out, HLz.out]) HNz.out ?_
          intro ws2 hs2 hfs2
          refine hK.out _ _ (hHeld.trans hfs2 (by intro x hx _; simp at hx; simp [hx])) (fun hHeld => ?_)
          clear hK K
          simp only [Act.put, List.setIfInBounds_toArray, List.set_cons_zero, List.set_cons_succ]
          refine wpAnyH_done (by kernel_rfl) ?_ _
          go_wp2_with fail
          go_meet
          exact ⟨rfl, ((HB0.out.keep HFc.out (by simp)).keep hfs1 (by simp)).keep hfs2 (by simp), ((HB1.out.keep HFc.out (by simp)).keep hfs1 (by simp)).keep hfs2 (by simp), hs1.keep hfs2 (by simp), hs2, ((HB4.out.keep HFc.out (by simp)).keep hfs1 (by simp)).keep hfs2 (by simp), ((HB5.out.keep HFc.out (by simp)).keep hfs1 (by simp)).keep hfs2 (by simp), ((HF.out.and HFc.out (by simp)).go hfs1 (by simp)).go hfs2 (by simp)⟩
      focus
        refine wp_row _ _ rfl _ _ rfl _ ((HB3.out.keep HFc.out (by simp)).range) (row_vote.of HLz.out) ?_
        refine hK.out _ _ hHeld (fun hHeld => ?_)
        clear hK K
        simp only [Act.put, List.setIfInBounds_toArray, List.set_cons_zero, List.set_cons_succ]
        refine step_at (i := 0) rfl (by kernel_rfl) (by rfl) (fun K hK => ?_)
        refine wp_row _ _ rfl _ _ rfl _ ((HB2.out.keep HFc.out (by simp)).range) (row_vote.of HLv.out) ?_
        refine hK.out _ _ hHeld (fun hHeld => ?_)
        clear hK K
        simp only [Act.put, List.setIfInBounds_toArray, List.set_cons_zero, List.set_cons_succ]
        refine call_at (i := 1) (f := ?_) (args := ?_) rfl (by kernel_rfl) (by rfl) ?_ ?_
        rotate_left 2
        · go_simp
          (try (first | with_reducible rfl | (apply And.intro <;> rfl)))
        refine (smallVote_c v HOv.out _).mono ?_
        rintro e wc5 ⟨rfl, hfc⟩
        have HFc := Lib.hid (HFc.out.and hfc (by simp))
        refine ⟨_, rfl, HFc.out.mono (by simp), fun hHeld => ?_⟩
        clear hfc
        simp only [Act.put, List.setIfInBounds_toArray, List.set_cons_zero, List.set_cons_succ]
        refine call_at (i := 3) (f := ?_) (args := ?_) rfl (by kernel_rfl) (by rfl) ?_ ?_
        rotate_left 2
        · go_simp
          (try (first | with_reducible rfl | (apply And.intro <;> rfl)))
        refine (smallVote_c z HOz.out _).mono ?_
        rintro e wc6 ⟨rfl, hfc⟩
        have HFc := Lib.hid (HFc.out.and hfc (by simp))
        refine ⟨_, rfl, HFc.out.mono (by simp), fun hHeld => ?_⟩
        clear hfc
        simp only [Act.put, List.setIfInBounds_toArray, List.set_cons_zero, List.set_cons_succ]
        refine step_at (i := 4) rfl (by kernel_rfl) (by rfl) (fun K hK => ?_)
        refine wp_store_blk 89 _ _ rfl (w.heap.size + 2) v.small.cells.toArray rfl rfl 89 v.cells.toArray (HB2.out.keep HFc.out (by simp)) (by rw [List.size_toArray, HMv.out]; kernel_rfl) (by rw [List.size_toArray, List.size_toArray, HMv.out, HLv.out]) HNv.out ?_
        intro ws1 hs1 hfs1
        refine hK.out _ _ (hHeld.trans hfs1 (by intro x hx _; simp at hx; simp [hx])) (fun hHeld => ?_)
        clear hK K
        simp only [Act.put, List.setIfInBounds_toArray, List.set_cons_zero, List.set_cons_succ]
        refine step_at (i := 5) rfl (by kernel_rfl) (by rfl) (fun K hK => ?_)
        refine wp_store_blk 89 _ _ rfl (w.heap.size + 3) z.small.cells.toArray rfl rfl 89 z.cells.toArray ((HB3.out.keep HFc.out (by simp)).keep hfs1 (by simp)) (by rw [List.size_toArray, HMz.out]; kernel_rfl) (by rw [List.size_toArray, List.size_toArray, HMz.out, HLz.out]) HNz.out ?_
        intro ws2 hs2 hfs2
        refine hK.out _ _ (hHeld.trans hfs2 (by intro x hx _; simp at hx; simp [hx])) (fun hHeld => ?_)
        clear hK K
        simp only [Act.put, List.setIfInBounds_toArray, List.set_cons_zero, List.set_cons_succ]
        refine wpAnyH_done (by kernel_rfl) ?_ _
        go_wp2_with fail
        go_meet
        exact ⟨rfl, ((HB0.out.keep HFc.out (by simp)).keep hfs1 (by simp)).keep hfs2 (by simp), ((HB1.out.keep HFc.out (by simp)).keep hfs1 (by simp)).keep hfs2 (by simp), hs1.keep hfs2 (by simp), hs2, ((HB4.out.keep HFc.out (by simp)).keep hfs1 (by simp)).keep hfs2 (by simp), ((HB5.out.keep HFc.out (by simp)).keep hfs1 (by simp)).keep hfs2 (by simp), ((HF.out.and HFc.out (by simp)).go hfs1 (by simp)).go hfs2 (by simp)⟩
    case rest =>
      obtain ⟨rfl, hb0, hb1, hb2, hb3, hb4, hb5, hf⟩ := hcut
      obtain ⟨w2, hw2⟩ : ∃ w2, w2 = wc := ⟨_, rfl⟩
      subst hw2
      clear HB0 HB1 HB2 HB3 HB4 HB5
      have HB0 := Lib.hid hb0
      have HB1 := Lib.hid hb1
      have HB2 := Lib.hid hb2
      have HB3 := Lib.hid hb3
      have HB4 := Lib.hid hb4
      have HB5 := Lib.hid hb5
      have HF := Lib.hid hf
      clear hf hb0 hb1 hb2 hb3 hb4 hb5
      go_upto_region 3 with (fail)
      have hx0 : w2.cell? ⟨w.heap.size + 4, 0, none⟩ = some (.int .i64 d.r) := HB4.out.cell 0
      have hx1 : w2.cell? ⟨w.heap.size + 4, 1, none⟩ = some (.int .i64 d.i) := HB4.out.cell 1
      have hx2 : w2.cell? ⟨w.heap.size + 5, 0, none⟩ = some (.int .i64 e.r) := HB5.out.cell 0
      have hx3 : w2.cell? ⟨w.heap.size + 5, 1, none⟩ = some (.int .i64 e.i) := HB5.out.cell 1
      refine wp_region_till 14 (Fr [w.heap.size + 4, w.heap.size + 5] w2) (Fr [] w2) (by kernel_rfl) (Fr.drew (Fr.refl _ w2)) (Fr.drew (Fr.refl _ w2)) (fun hA hB => ?_)
      refine till_run (i := 0) (v := ?_) rfl (by kernel_rfl) (by rfl) (fun _ _ _ h => h) hA hB (fun w1 hw1 => ?_) ?_
      rotate_left 1
      · skip
        go_simp
        (try (first | with_reducible rfl | (apply And.intro <;> rfl)))
      simp only [Act.put, List.setIfInBounds_toArray, List.set_cons_zero, List.set_cons_succ]
      refine till_run (i := 1) (v := ?_) rfl (by kernel_rfl) (by rfl) (fun _ _ _ h => h) hA hB (fun w1 hw1 => ?_) ?_
      rotate_left 1
      · skip
        have hcw0 := hw1.cell (hx0) (by first | (simp; done) | exact HNS.out | exact HNW.out | (intro hm; have hlt := HSB.out _ hm; (try dsimp only at hlt); omega))
        go_simp
        (try (first | with_reducible rfl | (apply And.intro <;> rfl)))
      simp only [Act.put, List.setIfInBounds_toArray, List.set_cons_zero, List.set_cons_succ]
      refine till_run (i := 3) (v := ?_) rfl (by kernel_rfl) (by rfl) (fun _ _ _ h => h) hA hB (fun w1 hw1 => ?_) ?_
      rotate_left 1
      · skip
        go_simp
        (try (first | with_reducible rfl | (apply And.intro <;> rfl)))
      simp only [Act.put, List.setIfInBounds_toArray, List.set_cons_zero, List.set_cons_succ]
      refine till_run (i := 4) (v := ?_) rfl (by kernel_rfl) (by rfl) (fun _ _ _ h => h) hA hB (fun w1 hw1 => ?_) ?_
      rotate_left 1
      · skip
        have hcw0 := hw1.cell (hx1) (by first | (simp; done) | exact HNS.out | exact HNW.out | (intro hm; have hlt := HSB.out _ hm; (try dsimp only at hlt); omega))
        go_simp
        (try (first | with_reducible rfl | (apply And.intro <;> rfl)))
      simp only [Act.put, List.setIfInBounds_toArray, List.set_cons_zero, List.set_cons_succ]
      refine till_run (i := 7) (v := ?_) rfl (by kernel_rfl) (by rfl) (fun _ _ _ h => h) hA hB (fun w1 hw1 => ?_) ?_
      rotate_left 1
      · skip
        go_simp
        (try (first | with_reducible rfl | (apply And.intro <;> rfl)))
      simp only [Act.put, List.setIfInBounds_toArray, List.set_cons_zero, List.set_cons_succ]
      refine till_run (i := 8) (v := ?_) rfl (by kernel_rfl) (by rfl) (fun _ _ _ h => h) hA hB (fun w1 hw1 => ?_) ?_
      rotate_left 1
      · skip
        have hcw0 := hw1.cell (hx2) (by first | (simp; done) | exact HNS.out | exact HNW.out | (intro hm; have hlt := HSB.out _ hm; (try dsimp only at hlt); omega))
        go_simp
        (try (first | with_reducible rfl | (apply And.intro <;> rfl)))
      simp only [Act.put, List.setIfInBounds_toArray, List.set_cons_zero, List.set_cons_succ]
      refine till_run (i := 10) (v := ?_) rfl (by kernel_rfl) (by rfl) (fun _ _ _ h => h) hA hB (fun w1 hw1 => ?_) ?_
      rotate_left 1
      · skip
        go_simp
        (try (first | with_reducible rfl | (apply And.intro <;> rfl)))
      simp only [Act.put, List.setIfInBounds_toArray, List.set_cons_zero, List.set_cons_succ]
      refine till_run (i := 11) (v := ?_) rfl (by kernel_rfl) (by rfl) (fun _ _ _ h => h) hA hB (fun w1 hw1 => ?_) ?_
      rotate_left 1
      · skip
        have hcw0 := hw1.cell (hx3) (by first | (simp; done) | exact HNS.out | exact HNW.out | (intro hm; have hlt := HSB.out _ hm; (try dsimp only at hlt); omega))
        go_simp
        (try (first | with_reducible rfl | (apply And.intro <;> rfl)))
      simp only [Act.put, List.setIfInBounds_toArray, List.set_cons_zero, List.set_cons_succ]
      refine till_call (i := 2) (f := ?_) (args := ?_) rfl (by kernel_rfl) (by rfl) ?_ ?_
      rotate_left 2
      · go_simp
        (try (first | with_reducible rfl | (apply And.intro <;> rfl)))
      refine (within_pos d.r 4 HOd.out.r.1 HOd.out.r.2 (by omega) (by omega) _).mono ?_
      rintro e_ wx ⟨rfl, rfl⟩
      refine ⟨_, rfl, ⟨hA, hB⟩, fun hB => ?_⟩
      simp only [Act.put, List.setIfInBounds_toArray, List.set_cons_zero, List.set_cons_succ]
      refine till_call (i := 5) (f := ?_) (args := ?_) rfl (by kernel_rfl) (by rfl) ?_ ?_
      rotate_left 2
      · go_simp
        (try (first | with_reducible rfl | (apply And.intro <;> rfl)))
      refine (within_pos d.i 4 HOd.out.i.1 HOd.out.i.2 (by omega) (by omega) _).mono ?_
      rintro e_ wx ⟨rfl, rfl⟩
      refine ⟨_, rfl, ⟨hA, hB⟩, fun hB => ?_⟩
      simp only [Act.put, List.setIfInBounds_toArray, List.set_cons_zero, List.set_cons_succ]
      refine till_build (i := 6) rfl (by kernel_rfl) (by rfl) _ _ rfl _ _ (built_dn (d.r % 4) (d.i % 4)) rfl (fun _ _ _ h => h) hA hB ?_
      simp only [Act.put, List.setIfInBounds_toArray, List.set_cons_zero, List.set_cons_succ]
      refine till_call (i := 9) (f := ?_) (args := ?_) rfl (by kernel_rfl) (by rfl) ?_ ?_
      rotate_left 2
      · go_simp
        (try (first | with_reducible rfl | (apply And.intro <;> rfl)))
      refine (within_pos e.r 4 HOe.out.r.1 HOe.out.r.2 (by omega) (by omega) _).mono ?_
      rintro e_ wx ⟨rfl, rfl⟩
      refine ⟨_, rfl, ⟨hA, hB⟩, fun hB => ?_⟩
      simp only [Act.put, List.setIfInBounds_toArray, List.set_cons_zero, List.set_cons_succ]
      refine till_call (i := 12) (f := ?_) (args := ?_) rfl (by kernel_rfl) (by rfl) ?_ ?_
      rotate_left 2
      · go_simp
        (try (first | with_reducible rfl | (apply And.intro <;> rfl)))
      refine (within_pos e.i 4 HOe.out.i.1 HOe.out.i.2 (by omega) (by omega) _).mono ?_
      rintro e_ wx ⟨rfl, rfl⟩
      refine ⟨_, rfl, ⟨hA, hB⟩, fun hB => ?_⟩
      simp only [Act.put, List.setIfInBounds_toArray, List.set_cons_zero, List.set_cons_succ]
      refine till_fbuild (i := 13) rfl (by kernel_rfl) (by decide) (by rfl) _ _ rfl _ _ (built_dn (e.r % 4) (e.i % 4)) rfl (fun _ _ _ h => h) hA (fun _ => hB) ?_
      simp only [Act.put, List.setIfInBounds_toArray, List.set_cons_zero, List.set_cons_succ]
      clear hx0 hx1 hx2 hx3
      have HBB := Lib.hid hB
      refine till_step (i := 14) rfl (by kernel_rfl) (by kernel_rfl) (by rfl) (fun K hK => ?_)
      refine wp_store_blk 91 _ _ rfl (w.heap.size + 4) d.small.cells.toArray rfl rfl 91 d.cells.toArray (HB4.out.keep HBB.out (by simp)) (by kernel_rfl) rfl (by kernel_rfl) ?_
      intro w3 hb3 hf3
      refine hK.out _ _ (hA.trans hf3 (by intro x hx _; simp at hx; simp [hx])) (fun hA => ?_)
      clear hK K
      simp only [Act.put, List.setIfInBounds_toArray, List.set_cons_zero, List.set_cons_succ]
      refine till_step (i := 15) rfl (by kernel_rfl) (by kernel_rfl) (by rfl) (fun K hK => ?_)
      refine wp_store_blk 91 _ _ rfl (w.heap.size + 5) e.small.cells.toArray rfl rfl 91 e.cells.toArray ((HB5.out.keep HBB.out (by simp)).keep hf3 (by simp)) (by kernel_rfl) rfl (by kernel_rfl) ?_
      intro w4 hb4 hf4
      refine hK.out _ _ (hA.trans hf4 (by intro x hx _; simp at hx; simp [hx])) (fun hA => ?_)
      clear hK K
      simp only [Act.put, List.setIfInBounds_toArray, List.set_cons_zero, List.set_cons_succ]
      refine till_done (by kernel_rfl) ?_ _
      have HB0 := Lib.hid (((HB0.out.keep HBB.out (by simp)).keep hf3 (by simp)).keep hf4 (by simp))
      have HB1 := Lib.hid (((HB1.out.keep HBB.out (by simp)).keep hf3 (by simp)).keep hf4 (by simp))
      have HB2 := Lib.hid (((HB2.out.keep HBB.out (by simp)).keep hf3 (by simp)).keep hf4 (by simp))
      have HB3 := Lib.hid (((HB3.out.keep HBB.out (by simp)).keep hf3 (by simp)).keep hf4 (by simp))
      have HB4 := Lib.hid (hb3.keep hf4 (by simp))
      have HB5 := Lib.hid hb4
      have HF := Lib.hid (((HF.out.and HBB.out (by simp)).go hf3 (by simp)).go hf4 (by simp))
      clear hb3 hf3 hb4 hf4
      have HTs := Lib.hid s.small_tiny
      have HTt := Lib.hid t.small_tiny
      have HTv := Lib.hid v.small_tiny
      have HTz := Lib.hid z.small_tiny
      have HTd := Lib.hid d.small_tiny
      have HTe := Lib.hid e.small_tiny
      go_upto_region 4 with (fail)
      refine wp_region_held_drew (S := Fr [] w4) (by kernel_rfl) (Fr.drew (Fr.refl _ w4)) (fun hHeld => ?_)
      refine row_at (i := 0) rfl (by kernel_rfl) (by rfl) _ _ rfl _ _ rfl _ (fun w1 hw1 => hw1.range (HB0.out.range) (by first | (simp; done) | exact HNS.out | exact HNW.out | (intro hm; have hlt := HSB.out _ hm; (try dsimp only at hlt); omega))) (row_stamp.of HMs.out) (fun _ _ _ h => h) hHeld ?_
      simp only [Act.put, List.setIfInBounds_toArray, List.set_cons_zero, List.set_cons_succ]
      refine row_at (i := 2) rfl (by kernel_rfl) (by rfl) _ _ rfl _ _ rfl _ (fun w1 hw1 => hw1.range (HB1.out.range) (by first | (simp; done) | exact HNS.out | exact HNW.out | (intro hm; have hlt := HSB.out _ hm; (try dsimp only at hlt); omega))) (row_stamp.of HMt.out) (fun _ _ _ h => h) hHeld ?_
      simp only [Act.put, List.setIfInBounds_toArray, List.set_cons_zero, List.set_cons_succ]
      refine call_at (i := 1) (f := ?_) (args := ?_) rfl (by kernel_rfl) (by rfl) ?_ ?_
      rotate_left 2
      · go_simp
        (try (first | with_reducible rfl | (apply And.intro <;> rfl)))
      refine (stampText_any s.small HTs.out.ok _).mono ?_
      rintro e_ wx ⟨A0, c0, rfl, hn⟩
      have HY0 := Lib.hid hn.by
      refine ⟨_, rfl, hHeld.and hn.2.1 (by simp), fun hHeld => ?_⟩
      clear hn
      simp only [Act.put, List.setIfInBounds_toArray, List.set_cons_zero, List.set_cons_succ]
      refine call_at (i := 3) (f := ?_) (args := ?_) rfl (by kernel_rfl) (by rfl) ?_ ?_
      rotate_left 2
      · go_simp
        (try (first | with_reducible rfl | (apply And.intro <;> rfl)))
      refine (stampText_any t.small HTt.out.ok _).mono ?_
      rintro e_ wy ⟨A1, c1, rfl, hn⟩
      have HY1 := Lib.hid hn.by
      have HY0 := Lib.hid (HY0.out.keep hn.2.1 (by simp))
      refine ⟨_, rfl, hHeld.and hn.2.1 (by simp), fun hHeld => ?_⟩
      clear hn
      simp only [Act.put, List.setIfInBounds_toArray, List.set_cons_zero, List.set_cons_succ]
      refine run_at (i := 4) (v := ?_) rfl (by kernel_rfl) (by rfl) (fun _ _ _ h => h) hHeld (fun w1 hw1 => ?_) ?_
      rotate_left 1
      · skip
        go_simp
        (try (first | with_reducible rfl | (apply And.intro <;> rfl)))
      simp only [Act.put, List.setIfInBounds_toArray, List.set_cons_zero, List.set_cons_succ]
      refine run_at (i := 5) (v := ?_) rfl (by kernel_rfl) (by rfl) (fun _ _ _ h => h) hHeld (fun w1 hw1 => ?_) ?_
      rotate_left 1
      · skip
        go_simp
        (try (first | with_reducible rfl | (apply And.intro <;> rfl)))
      simp only [Act.put, List.setIfInBounds_toArray, List.set_cons_zero, List.set_cons_succ]
      refine wpAnyH_done (by kernel_rfl) ?_ _
      have HB0 := Lib.hid (HB0.out.keep hHeld (by simp))
      have HB1 := Lib.hid (HB1.out.keep hHeld (by simp))
      have HB2 := Lib.hid (HB2.out.keep hHeld (by simp))
      have HB3 := Lib.hid (HB3.out.keep hHeld (by simp))
      have HB4 := Lib.hid (HB4.out.keep hHeld (by simp))
      have HB5 := Lib.hid (HB5.out.keep hHeld (by simp))
      have HF := Lib.hid (HF.out.and hHeld (by simp))
      clear hHeld
      generalize wy = w5 at *
      go_upto_region 5 with (fail)
      refine wp_region_held_drew (S := Fr [] w5) (by kernel_rfl) (Fr.drew (Fr.refl _ w5)) (fun hHeld => ?_)
      refine row_at (i := 0) rfl (by kernel_rfl) (by rfl) _ _ rfl _ _ rfl _ (fun w1 hw1 => hw1.range (HB2.out.range) (by first | (simp; done) | exact HNS.out | exact HNW.out | (intro hm; have hlt := HSB.out _ hm; (try dsimp only at hlt); omega))) (row_vote.of HMv.out) (fun _ _ _ h => h) hHeld ?_
      simp only [Act.put, List.setIfInBounds_toArray, List.set_cons_zero, List.set_cons_succ]
      refine row_at (i := 2) rfl (by kernel_rfl) (by rfl) _ _ rfl _ _ rfl _ (fun w1 hw1 => hw1.range (HB3.out.range) (by first | (simp; done) | exact HNS.out | exact HNW.out | (intro hm; have hlt := HSB.out _ hm; (try dsimp only at hlt); omega))) (row_vote.of HMz.out) (fun _ _ _ h => h) hHeld ?_
      simp only [Act.put, List.setIfInBounds_toArray, List.set_cons_zero, List.set_cons_succ]
      refine call_at (i := 1) (f := ?_) (args := ?_) rfl (by kernel_rfl) (by rfl) ?_ ?_
      rotate_left 2
      · go_simp
        (try (first | with_reducible rfl | (apply And.intro <;> rfl)))
      refine (voteText_any v.small HTv.out.ok _).mono ?_
      rintro e_ wx ⟨A2, c2, rfl, hn⟩
      have HY2 := Lib.hid hn.by
      refine ⟨_, rfl, hHeld.and hn.2.1 (by simp), fun hHeld => ?_⟩
      clear hn
      simp only [Act.put, List.setIfInBounds_toArray, List.set_cons_zero, List.set_cons_succ]
      refine call_at (i := 3) (f := ?_) (args := ?_) rfl (by kernel_rfl) (by rfl) ?_ ?_
      rotate_left 2
      · go_simp
        (try (first | with_reducible rfl | (apply And.intro <;> rfl)))
      refine (voteText_any z.small HTz.out.ok _).mono ?_
      rintro e_ wy ⟨A3, c3, rfl, hn⟩
      have HY3 := Lib.hid hn.by
      have HY2 := Lib.hid (HY2.out.keep hn.2.1 (by simp))
      refine ⟨_, rfl, hHeld.and hn.2.1 (by simp), fun hHeld => ?_⟩
      clear hn
      simp only [Act.put, List.setIfInBounds_toArray, List.set_cons_zero, List.set_cons_succ]
      refine run_at (i := 4) (v := ?_) rfl (by kernel_rfl) (by rfl) (fun _ _ _ h => h) hHeld (fun w1 hw1 => ?_) ?_
      rotate_left 1
      · skip
        go_simp
        (try (first | with_reducible rfl | (apply And.intro <;> rfl)))
      simp only [Act.put, List.setIfInBounds_toArray, List.set_cons_zero, List.set_cons_succ]
      refine run_at (i := 5) (v := ?_) rfl (by kernel_rfl) (by rfl) (fun _ _ _ h => h) hHeld (fun w1 hw1 => ?_) ?_
      rotate_left 1
      · skip
        go_simp
        (try (first | with_reducible rfl | (apply And.intro <;> rfl)))
      simp only [Act.put, List.setIfInBounds_toArray, List.set_cons_zero, List.set_cons_succ]
      refine wpAnyH_done (by kernel_rfl) ?_ _
      have HB0 := Lib.hid (HB0.out.keep hHeld (by simp))
      have HB1 := Lib.hid (HB1.out.keep hHeld (by simp))
      have HB2 := Lib.hid (HB2.out.keep hHeld (by simp))
      have HB3 := Lib.hid (HB3.out.keep hHeld (by simp))
      have HB4 := Lib.hid (HB4.out.keep hHeld (by simp))
      have HB5 := Lib.hid (HB5.out.keep hHeld (by simp))
      have HY0 := Lib.hid (HY0.out.keep hHeld (by simp))
      have HY1 := Lib.hid (HY1.out.keep hHeld (by simp))
      have HF := Lib.hid (HF.out.and hHeld (by simp))
      clear hHeld
      generalize wy = w6 at *
      go_upto_region 6 with (fail)
      refine wp_region_held_drew (S := Fr [] w6) (by kernel_rfl) (Fr.drew (Fr.refl _ w6)) (fun hHeld => ?_)
      refine row_at (i := 0) rfl (by kernel_rfl) (by rfl) _ _ rfl _ _ rfl _ (fun w1 hw1 => hw1.range (HB4.out.range) (by first | (simp; done) | exact HNS.out | exact HNW.out | (intro hm; have hlt := HSB.out _ hm; (try dsimp only at hlt); omega))) (row_deny.of HMd.out) (fun _ _ _ h => h) hHeld ?_
      simp only [Act.put, List.setIfInBounds_toArray, List.set_cons_zero, List.set_cons_succ]
      refine row_at (i := 2) rfl (by kernel_rfl) (by rfl) _ _ rfl _ _ rfl _ (fun w1 hw1 => hw1.range (HB5.out.range) (by first | (simp; done) | exact HNS.out | exact HNW.out | (intro hm; have hlt := HSB.out _ hm; (try dsimp only at hlt); omega))) (row_deny.of HMe.out) (fun _ _ _ h => h) hHeld ?_
      simp only [Act.put, List.setIfInBounds_toArray, List.set_cons_zero, List.set_cons_succ]
      refine call_at (i := 1) (f := ?_) (args := ?_) rfl (by kernel_rfl) (by rfl) ?_ ?_
      rotate_left 2
      · go_simp
        (try (first | with_reducible rfl | (apply And.intro <;> rfl)))
      refine (denyText_any d.small HTd.out.ok _).mono ?_
      rintro e_ wx ⟨A4, c4, rfl, hn⟩
      have HY4 := Lib.hid hn.by
      refine ⟨_, rfl, hHeld.and hn.2.1 (by simp), fun hHeld => ?_⟩
      clear hn
      simp only [Act.put, List.setIfInBounds_toArray, List.set_cons_zero, List.set_cons_succ]
      refine call_at (i := 3) (f := ?_) (args := ?_) rfl (by kernel_rfl) (by rfl) ?_ ?_
      rotate_left 2
      · go_simp
        (try (first | with_reducible rfl | (apply And.intro <;> rfl)))
      refine (denyText_any e.small HTe.out.ok _).mono ?_
      rintro e_ wy ⟨A5, c5, rfl, hn⟩
      have HY5 := Lib.hid hn.by
      have HY4 := Lib.hid (HY4.out.keep hn.2.1 (by simp))
      refine ⟨_, rfl, hHeld.and hn.2.1 (by simp), fun hHeld => ?_⟩
      clear hn
      simp only [Act.put, List.setIfInBounds_toArray, List.set_cons_zero, List.set_cons_succ]
      refine run_at (i := 4) (v := ?_) rfl (by kernel_rfl) (by rfl) (fun _ _ _ h => h) hHeld (fun w1 hw1 => ?_) ?_
      rotate_left 1
      · skip
        go_simp
        (try (first | with_reducible rfl | (apply And.intro <;> rfl)))
      simp only [Act.put, List.setIfInBounds_toArray, List.set_cons_zero, List.set_cons_succ]
      refine run_at (i := 5) (v := ?_) rfl (by kernel_rfl) (by rfl) (fun _ _ _ h => h) hHeld (fun w1 hw1 => ?_) ?_
      rotate_left 1
      · skip
        go_simp
        (try (first | with_reducible rfl | (apply And.intro <;> rfl)))
      simp only [Act.put, List.setIfInBounds_toArray, List.set_cons_zero, List.set_cons_succ]
      refine wpAnyH_done (by kernel_rfl) ?_ _
      have HB0 := Lib.hid (HB0.out.keep hHeld (by simp))
      have HB1 := Lib.hid (HB1.out.keep hHeld (by simp))
      have HB2 := Lib.hid (HB2.out.keep hHeld (by simp))
      have HB3 := Lib.hid (HB3.out.keep hHeld (by simp))
      have HB4 := Lib.hid (HB4.out.keep hHeld (by simp))
      have HB5 := Lib.hid (HB5.out.keep hHeld (by simp))
      have HY0 := Lib.hid (HY0.out.keep hHeld (by simp))
      have HY1 := Lib.hid (HY1.out.keep hHeld (by simp))
      have HY2 := Lib.hid (HY2.out.keep hHeld (by simp))
      have HY3 := Lib.hid (HY3.out.keep hHeld (by simp))
      have HF := Lib.hid (HF.out.and hHeld (by simp))
      clear hHeld
      generalize wy = w7 at *
      have hat := Wst.at_of (o := 0) HB0.out.range rfl
      have hc0 : w7.cell? ⟨w.heap.size, 0, none⟩ = some (.int .i64 s.small.r) := hat.r
      have hc1 : w7.cell? ⟨w.heap.size, 35, none⟩ = some (.int .u64 (s.small.t : Int)) := hat.t
      have HAT := Lib.hid hat
      have HBA := Lib.hid (built_ackS s)
      clear hat
      go_upto_region 8 with (first
        | (refine wpList_row rfl 39 _ rfl _ _ rfl _ HAT.out.name row_name ?_)
        | (refine wpList_row rfl 41 _ rfl _ _ rfl _ HAT.out.hash (row_hash.of rfl) ?_)
        | (refine wpList_builtg rfl 99 _ rfl _ _ HBA.out rfl ?_)
        | (go_at_call 50
           refine (ackText_any s.small HTs.out.ok _).mono ?_
           rintro e_ w8 ⟨A6, c6, rfl, hn⟩
           have HN6 := Lib.hid hn
           clear hn))
      have HY6 := Lib.hid HN6.out.by
      have HB0 := Lib.hid (HB0.out.keep HN6.out.2.1 (by simp))
      have HB1 := Lib.hid (HB1.out.keep HN6.out.2.1 (by simp))
      have HB2 := Lib.hid (HB2.out.keep HN6.out.2.1 (by simp))
      have HB3 := Lib.hid (HB3.out.keep HN6.out.2.1 (by simp))
      have HB4 := Lib.hid (HB4.out.keep HN6.out.2.1 (by simp))
      have HB5 := Lib.hid (HB5.out.keep HN6.out.2.1 (by simp))
      have HY0 := Lib.hid (HY0.out.keep HN6.out.2.1 (by simp))
      have HY1 := Lib.hid (HY1.out.keep HN6.out.2.1 (by simp))
      have HY2 := Lib.hid (HY2.out.keep HN6.out.2.1 (by simp))
      have HY3 := Lib.hid (HY3.out.keep HN6.out.2.1 (by simp))
      have HY4 := Lib.hid (HY4.out.keep HN6.out.2.1 (by simp))
      have HY5 := Lib.hid (HY5.out.keep HN6.out.2.1 (by simp))
      have HF := Lib.hid (HF.out.and HN6.out.2.1 (by simp))
      clear HN6 hc0 hc1 HAT HBA
      generalize s.small = s1 at *
      generalize t.small = t1 at *
      generalize v.small = v1 at *
      generalize z.small = z1 at *
      generalize d.small = d1 at *
      generalize e.small = e1 at *
      have q1 : decide (s1.text = t1.text) = s1.eqB t1 := by rw [Bool.eq_iff_iff, decide_eq_true_iff, Wst.eqB_iff]; exact Wst.text_inj HTs.out HTt.out
      have q2 : decide (v1.text = z1.text) = v1.eqB z1 := by rw [Bool.eq_iff_iff, decide_eq_true_iff, Wvt.eqB_iff]; exact Wvt.text_inj HTv.out HTz.out
      have q3 : decide (d1.text = e1.text) = d1.eqB e1 := by rw [Bool.eq_iff_iff, decide_eq_true_iff, Wdn.eqB_iff]; exact Wdn.text_inj HTd.out HTe.out
      have q4 : decide (s1.text = v1.text) = false := decide_eq_false (sv_ne _ _)
      have q5 : decide (s1.text = d1.text) = false := decide_eq_false (sd_ne _ _)
      have q6 : decide (v1.text = d1.text) = false := decide_eq_false (vd_ne _ _)
      have q7 : decide (s1.text = s1.ack) = false := decide_eq_false (sa_ne _ _)
      have l0 := Wst.text_len HTs.out.ok
      have l2 := Wvt.text_len HTv.out.ok
      have l4 := Wdn.text_len HTd.out.ok
      have HE1 := Lib.hid (fun W => eql_Wst s1 t1 HTs.out.h HTt.out.h W)
      have HE2 := Lib.hid (fun W => eql_Wvt v1 z1 HTv.out.h HTz.out.h W)
      have HE3 := Lib.hid (fun W => eql_Wdn d1 e1 W)
      clear HTs HTt HTv HTz HTd HTe
      generalize s1.eqB t1 = p1 at *
      generalize v1.eqB z1 = p2 at *
      generalize d1.eqB e1 = p3 at *
      generalize s1.text = T0 at *
      generalize t1.text = T1 at *
      generalize v1.text = T2 at *
      generalize z1.text = T3 at *
      generalize d1.text = T4 at *
      generalize e1.text = T5 at *
      generalize s1.ack = T6 at *
      have Q1 := Lib.hid q1
      have Q2 := Lib.hid q2
      have Q3 := Lib.hid q3
      have Q4 := Lib.hid q4
      have Q5 := Lib.hid q5
      have Q6 := Lib.hid q6
      have Q7 := Lib.hid q7
      have LL := Lib.hid (And.intro l0 (And.intro l2 l4))
      clear q1 q2 q3 q4 q5 q6 q7 l0 l2 l4
      have hp1 : (p1 == p1) = true := by simp
      have hp2 : (p2 == p2) = true := by simp
      have hp3 : (p3 == p3) = true := by simp
      generalize s1.cells = C0 at *
      generalize t1.cells = C1 at *
      generalize v1.cells = C2 at *
      generalize z1.cells = C3 at *
      generalize d1.cells = C4 at *
      generalize e1.cells = C5 at *
      refine wp_region_held_drew (S := Fr [] w8) (by kernel_rfl) (Fr.drew (Fr.refl _ w8)) (fun hHeld => ?_)
      refine run_at (i := 0) (v := ?_) rfl (by kernel_rfl) (by rfl) (fun _ _ _ h => h) hHeld (fun w1 hw1 => ?_) ?_
      rotate_left 1
      · skip
        go_simp
        (try (first | with_reducible rfl | (apply And.intro <;> rfl)))
      simp only [Act.put, List.setIfInBounds_toArray, List.set_cons_zero, List.set_cons_succ]
      refine run_at (i := 1) (v := ?_) rfl (by kernel_rfl) (by rfl) (fun _ _ _ h => h) hHeld (fun w1 hw1 => ?_) ?_
      rotate_left 1
      · skip
        go_simp
        (try (first | with_reducible rfl | (apply And.intro <;> rfl)))
      simp only [Act.put, List.setIfInBounds_toArray, List.set_cons_zero, List.set_cons_succ]
      refine row_at (i := 3) rfl (by kernel_rfl) (by rfl) _ _ rfl _ _ rfl _ (fun w1 hw1 => hw1.range (HB0.out.range) (by first | (simp; done) | exact HNS.out | exact HNW.out | (intro hm; have hlt := HSB.out _ hm; (try dsimp only at hlt); omega))) (row_stamp.of HMs.out) (fun _ _ _ h => h) hHeld ?_
      simp only [Act.put, List.setIfInBounds_toArray, List.set_cons_zero, List.set_cons_succ]
      refine row_at (i := 4) rfl (by kernel_rfl) (by rfl) _ _ rfl _ _ rfl _ (fun w1 hw1 => hw1.range (HB1.out.range) (by first | (simp; done) | exact HNS.out | exact HNW.out | (intro hm; have hlt := HSB.out _ hm; (try dsimp only at hlt); omega))) (row_stamp.of HMt.out) (fun _ _ _ h => h) hHeld ?_
      simp only [Act.put, List.setIfInBounds_toArray, List.set_cons_zero, List.set_cons_succ]
      refine eql_at (i := 5) rfl (by kernel_rfl) (by rfl) _ _ _ _ rfl _ _ rfl rfl _ (by kernel_rfl) (HE1.out) (fun _ _ _ h => h) hHeld ?_
      simp only [Act.put, List.setIfInBounds_toArray, List.set_cons_zero, List.set_cons_succ]
      have hsm := same_any A0 A1 T0.length T1.length c0 c1 T0 T1 _ (HY0.out.keep hHeld (by simp)) (HY1.out.keep hHeld (by simp)) (by have := LL.out.1; omega)
      rw [Q1.out] at hsm
      refine call_at (i := 2) (f := ?_) (args := ?_) rfl (by kernel_rfl) (by rfl) ?_ ?_
      rotate_left 2
      · go_simp
        (try (first | with_reducible rfl | (apply And.intro <;> rfl)))
      refine hsm.mono ?_
      rintro e_ wv ⟨rfl, kk, rfl⟩
      clear hsm
      refine ⟨_, rfl, hHeld.drewN kk, fun hHeld => ?_⟩
      simp only [Act.put, List.setIfInBounds_toArray, List.set_cons_zero, List.set_cons_succ]
      refine run_at (i := 6) (v := ?_) rfl (by kernel_rfl) (by rfl) (fun _ _ _ h => h) hHeld (fun w1 hw1 => ?_) ?_
      rotate_left 1
      · skip
        go_simp
        (try (first | with_reducible rfl | (apply And.intro <;> rfl)))
      simp only [Act.put, List.setIfInBounds_toArray, List.set_cons_zero, List.set_cons_succ]
      refine run_at (i := 7) (v := ?_) rfl (by kernel_rfl) (by rfl) (fun _ _ _ h => h) hHeld (fun w1 hw1 => ?_) ?_
      rotate_left 1
      · skip
        go_simp
        (try (first | with_reducible rfl | (apply And.intro <;> rfl)))
      simp only [Act.put, List.setIfInBounds_toArray, List.set_cons_zero, List.set_cons_succ]
      refine run_at (i := 8) (v := ?_) rfl (by kernel_rfl) (by rfl) (fun _ _ _ h => h) hHeld (fun w1 hw1 => ?_) ?_
      rotate_left 1
      · skip
        go_simp
        (try (first | with_reducible rfl | (apply And.intro <;> rfl)))
      simp only [Act.put, List.setIfInBounds_toArray, List.set_cons_zero, List.set_cons_succ]
      refine run_at (i := 9) (v := ?_) rfl (by kernel_rfl) (by rfl) (fun _ _ _ h => h) hHeld (fun w1 hw1 => ?_) ?_
      rotate_left 1
      · skip
        go_simp
        (try (first | with_reducible rfl | (apply And.intro <;> rfl)))
      simp only [Act.put, List.setIfInBounds_toArray, List.set_cons_zero, List.set_cons_succ]
      refine row_at (i := 11) rfl (by kernel_rfl) (by rfl) _ _ rfl _ _ rfl _ (fun w1 hw1 => hw1.range (HB2.out.range) (by first | (simp; done) | exact HNS.out | exact HNW.out | (intro hm; have hlt := HSB.out _ hm; (try dsimp only at hlt); omega))) (row_vote.of HMv.out) (fun _ _ _ h => h) hHeld ?_
      simp only [Act.put, List.setIfInBounds_toArray, List.set_cons_zero, List.set_cons_succ]
      refine row_at (i := 12) rfl (by kernel_rfl) (by rfl) _ _ rfl _ _ rfl _ (fun w1 hw1 => hw1.range (HB3.out.range) (by first | (simp; done) | exact HNS.out | exact HNW.out | (intro hm; have hlt := HSB.out _ hm; (try dsimp only at hlt); omega))) (row_vote.of HMz.out) (fun _ _ _ h => h) hHeld ?_
      simp only [Act.put, List.setIfInBounds_toArray, List.set_cons_zero, List.set_cons_succ]
      refine eql_at (i := 13) rfl (by kernel_rfl) (by rfl) _ _ _ _ rfl _ _ rfl rfl _ (by kernel_rfl) (HE2.out) (fun _ _ _ h => h) hHeld ?_
      simp only [Act.put, List.setIfInBounds_toArray, List.set_cons_zero, List.set_cons_succ]
      have hsm := same_any A2 A3 T2.length T3.length c2 c3 T2 T3 _ (HY2.out.keep hHeld (by simp)) (HY3.out.keep hHeld (by simp)) (by have := LL.out.2.1; omega)
      rw [Q2.out] at hsm
      refine call_at (i := 10) (f := ?_) (args := ?_) rfl (by kernel_rfl) (by rfl) ?_ ?_
      rotate_left 2
      · go_simp
        (try (first | with_reducible rfl | (apply And.intro <;> rfl)))
      refine hsm.mono ?_
      rintro e_ wv ⟨rfl, kk, rfl⟩
      clear hsm
      refine ⟨_, rfl, hHeld.drewN kk, fun hHeld => ?_⟩
      simp only [Act.put, List.setIfInBounds_toArray, List.set_cons_zero, List.set_cons_succ]
      refine run_at (i := 14) (v := ?_) rfl (by kernel_rfl) (by rfl) (fun _ _ _ h => h) hHeld (fun w1 hw1 => ?_) ?_
      rotate_left 1
      · skip
        go_simp
        (try (first | with_reducible rfl | (apply And.intro <;> rfl)))
      simp only [Act.put, List.setIfInBounds_toArray, List.set_cons_zero, List.set_cons_succ]
      refine run_at (i := 15) (v := ?_) rfl (by kernel_rfl) (by rfl) (fun _ _ _ h => h) hHeld (fun w1 hw1 => ?_) ?_
      rotate_left 1
      · skip
        go_simp
        (try (first | with_reducible rfl | (apply And.intro <;> rfl)))
      simp only [Act.put, List.setIfInBounds_toArray, List.set_cons_zero, List.set_cons_succ]
      refine run_at (i := 16) (v := ?_) rfl (by kernel_rfl) (by rfl) (fun _ _ _ h => h) hHeld (fun w1 hw1 => ?_) ?_
      rotate_left 1
      · skip
        go_simp
        (try (first | with_reducible rfl | (apply And.intro <;> rfl)))
      simp only [Act.put, List.setIfInBounds_toArray, List.set_cons_zero, List.set_cons_succ]
      refine run_at (i := 17) (v := ?_) rfl (by kernel_rfl) (by rfl) (fun _ _ _ h => h) hHeld (fun w1 hw1 => ?_) ?_
      rotate_left 1
      · skip
        go_simp
        (try (first | with_reducible rfl | (apply And.intro <;> rfl)))
      simp only [Act.put, List.setIfInBounds_toArray, List.set_cons_zero, List.set_cons_succ]
      refine run_at (i := 18) (v := ?_) rfl (by kernel_rfl) (by rfl) (fun _ _ _ h => h) hHeld (fun w1 hw1 => ?_) ?_
      rotate_left 1
      · skip
        go_simp
        (try (first | with_reducible rfl | (apply And.intro <;> rfl)))
      simp only [Act.put, List.setIfInBounds_toArray, List.set_cons_zero, List.set_cons_succ]
      refine row_at (i := 20) rfl (by kernel_rfl) (by rfl) _ _ rfl _ _ rfl _ (fun w1 hw1 => hw1.range (HB4.out.range) (by first | (simp; done) | exact HNS.out | exact HNW.out | (intro hm; have hlt := HSB.out _ hm; (try dsimp only at hlt); omega))) (row_deny.of HMd.out) (fun _ _ _ h => h) hHeld ?_
      simp only [Act.put, List.setIfInBounds_toArray, List.set_cons_zero, List.set_cons_succ]
      refine row_at (i := 21) rfl (by kernel_rfl) (by rfl) _ _ rfl _ _ rfl _ (fun w1 hw1 => hw1.range (HB5.out.range) (by first | (simp; done) | exact HNS.out | exact HNW.out | (intro hm; have hlt := HSB.out _ hm; (try dsimp only at hlt); omega))) (row_deny.of HMe.out) (fun _ _ _ h => h) hHeld ?_
      simp only [Act.put, List.setIfInBounds_toArray, List.set_cons_zero, List.set_cons_succ]
      refine eql_at (i := 22) rfl (by kernel_rfl) (by rfl) _ _ _ _ rfl _ _ rfl rfl _ (by kernel_rfl) (HE3.out) (fun _ _ _ h => h) hHeld ?_
      simp only [Act.put, List.setIfInBounds_toArray, List.set_cons_zero, List.set_cons_succ]
      have hsm := same_any A4 A5 T4.length T5.length c4 c5 T4 T5 _ (HY4.out.keep hHeld (by simp)) (HY5.out.keep hHeld (by simp)) (by have := LL.out.2.2; omega)
      rw [Q3.out] at hsm
      refine call_at (i := 19) (f := ?_) (args := ?_) rfl (by kernel_rfl) (by rfl) ?_ ?_
      rotate_left 2
      · go_simp
        (try (first | with_reducible rfl | (apply And.intro <;> rfl)))
      refine hsm.mono ?_
      rintro e_ wv ⟨rfl, kk, rfl⟩
      clear hsm
      refine ⟨_, rfl, hHeld.drewN kk, fun hHeld => ?_⟩
      simp only [Act.put, List.setIfInBounds_toArray, List.set_cons_zero, List.set_cons_succ]
      refine run_at (i := 23) (v := ?_) rfl (by kernel_rfl) (by rfl) (fun _ _ _ h => h) hHeld (fun w1 hw1 => ?_) ?_
      rotate_left 1
      · skip
        go_simp
        (try (first | with_reducible rfl | (apply And.intro <;> rfl)))
      simp only [Act.put, List.setIfInBounds_toArray, List.set_cons_zero, List.set_cons_succ]
      refine run_at (i := 24) (v := ?_) rfl (by kernel_rfl) (by rfl) (fun _ _ _ h => h) hHeld (fun w1 hw1 => ?_) ?_
      rotate_left 1
      · skip
        go_simp
        (try (first | with_reducible rfl | (apply And.intro <;> rfl)))
      simp only [Act.put, List.setIfInBounds_toArray, List.set_cons_zero, List.set_cons_succ]
      refine run_at (i := 25) (v := ?_) rfl (by kernel_rfl) (by rfl) (fun _ _ _ h => h) hHeld (fun w1 hw1 => ?_) ?_
      rotate_left 1
      · skip
        go_simp
        (try (first | with_reducible rfl | (apply And.intro <;> rfl)))
      simp only [Act.put, List.setIfInBounds_toArray, List.set_cons_zero, List.set_cons_succ]
      refine run_at (i := 26) (v := ?_) rfl (by kernel_rfl) (by rfl) (fun _ _ _ h => h) hHeld (fun w1 hw1 => ?_) ?_
      rotate_left 1
      · skip
        go_simp
        (try (first | with_reducible rfl | (apply And.intro <;> rfl)))
      simp only [Act.put, List.setIfInBounds_toArray, List.set_cons_zero, List.set_cons_succ]
      refine run_at (i := 27) (v := ?_) rfl (by kernel_rfl) (by rfl) (fun _ _ _ h => h) hHeld (fun w1 hw1 => ?_) ?_
      rotate_left 1
      · skip
        go_simp
        (try (first | with_reducible rfl | (apply And.intro <;> rfl)))
      simp only [Act.put, List.setIfInBounds_toArray, List.set_cons_zero, List.set_cons_succ]
      have hsm := same_any A0 A2 T0.length T2.length c0 c2 T0 T2 _ (HY0.out.keep hHeld (by simp)) (HY2.out.keep hHeld (by simp)) (by have := LL.out.1; omega)
      rw [Q4.out] at hsm
      refine call_at (i := 28) (f := ?_) (args := ?_) rfl (by kernel_rfl) (by rfl) ?_ ?_
      rotate_left 2
      · go_simp
        (try (first | with_reducible rfl | (apply And.intro <;> rfl)))
      refine hsm.mono ?_
      rintro e_ wv ⟨rfl, kk, rfl⟩
      clear hsm
      refine ⟨_, rfl, hHeld.drewN kk, fun hHeld => ?_⟩
      simp only [Act.put, List.setIfInBounds_toArray, List.set_cons_zero, List.set_cons_succ]
      refine run_at (i := 29) (v := ?_) rfl (by kernel_rfl) (by rfl) (fun _ _ _ h => h) hHeld (fun w1 hw1 => ?_) ?_
      rotate_left 1
      · skip
        go_simp
        (try (first | with_reducible rfl | (apply And.intro <;> rfl)))
      simp only [Act.put, List.setIfInBounds_toArray, List.set_cons_zero, List.set_cons_succ]
      refine run_at (i := 30) (v := ?_) rfl (by kernel_rfl) (by rfl) (fun _ _ _ h => h) hHeld (fun w1 hw1 => ?_) ?_
      rotate_left 1
      · skip
        go_simp
        (try (first | with_reducible rfl | (apply And.intro <;> rfl)))
      simp only [Act.put, List.setIfInBounds_toArray, List.set_cons_zero, List.set_cons_succ]
      refine run_at (i := 31) (v := ?_) rfl (by kernel_rfl) (by rfl) (fun _ _ _ h => h) hHeld (fun w1 hw1 => ?_) ?_
      rotate_left 1
      · skip
        go_simp
        (try (first | with_reducible rfl | (apply And.intro <;> rfl)))
      simp only [Act.put, List.setIfInBounds_toArray, List.set_cons_zero, List.set_cons_succ]
      refine run_at (i := 32) (v := ?_) rfl (by kernel_rfl) (by rfl) (fun _ _ _ h => h) hHeld (fun w1 hw1 => ?_) ?_
      rotate_left 1
      · skip
        go_simp
        (try (first | with_reducible rfl | (apply And.intro <;> rfl)))
      simp only [Act.put, List.setIfInBounds_toArray, List.set_cons_zero, List.set_cons_succ]
      refine run_at (i := 33) (v := ?_) rfl (by kernel_rfl) (by rfl) (fun _ _ _ h => h) hHeld (fun w1 hw1 => ?_) ?_
      rotate_left 1
      · skip
        go_simp
        (try (first | with_reducible rfl | (apply And.intro <;> rfl)))
      simp only [Act.put, List.setIfInBounds_toArray, List.set_cons_zero, List.set_cons_succ]
      have hsm := same_any A0 A4 T0.length T4.length c0 c4 T0 T4 _ (HY0.out.keep hHeld (by simp)) (HY4.out.keep hHeld (by simp)) (by have := LL.out.1; omega)
      rw [Q5.out] at hsm
      refine call_at (i := 34) (f := ?_) (args := ?_) rfl (by kernel_rfl) (by rfl) ?_ ?_
      rotate_left 2
      · go_simp
        (try (first | with_reducible rfl | (apply And.intro <;> rfl)))
      refine hsm.mono ?_
      rintro e_ wv ⟨rfl, kk, rfl⟩
      clear hsm
      refine ⟨_, rfl, hHeld.drewN kk, fun hHeld => ?_⟩
      simp only [Act.put, List.setIfInBounds_toArray, List.set_cons_zero, List.set_cons_succ]
      refine run_at (i := 35) (v := ?_) rfl (by kernel_rfl) (by rfl) (fun _ _ _ h => h) hHeld (fun w1 hw1 => ?_) ?_
      rotate_left 1
      · skip
        go_simp
        (try (first | with_reducible rfl | (apply And.intro <;> rfl)))
      simp only [Act.put, List.setIfInBounds_toArray, List.set_cons_zero, List.set_cons_succ]
      refine run_at (i := 36) (v := ?_) rfl (by kernel_rfl) (by rfl) (fun _ _ _ h => h) hHeld (fun w1 hw1 => ?_) ?_
      rotate_left 1
      · skip
        go_simp
        (try (first | with_reducible rfl | (apply And.intro <;> rfl)))
      simp only [Act.put, List.setIfInBounds_toArray, List.set_cons_zero, List.set_cons_succ]
      refine run_at (i := 37) (v := ?_) rfl (by kernel_rfl) (by rfl) (fun _ _ _ h => h) hHeld (fun w1 hw1 => ?_) ?_
      rotate_left 1
      · skip
        go_simp
        (try (first | with_reducible rfl | (apply And.intro <;> rfl)))
      simp only [Act.put, List.setIfInBounds_toArray, List.set_cons_zero, List.set_cons_succ]
      refine run_at (i := 38) (v := ?_) rfl (by kernel_rfl) (by rfl) (fun _ _ _ h => h) hHeld (fun w1 hw1 => ?_) ?_
      rotate_left 1
      · skip
        go_simp
        (try (first | with_reducible rfl | (apply And.intro <;> rfl)))
      simp only [Act.put, List.setIfInBounds_toArray, List.set_cons_zero, List.set_cons_succ]
      refine run_at (i := 39) (v := ?_) rfl (by kernel_rfl) (by rfl) (fun _ _ _ h => h) hHeld (fun w1 hw1 => ?_) ?_
      rotate_left 1
      · skip
        go_simp
        (try (first | with_reducible rfl | (apply And.intro <;> rfl)))
      simp only [Act.put, List.setIfInBounds_toArray, List.set_cons_zero, List.set_cons_succ]
      have hsm := same_any A2 A4 T2.length T4.length c2 c4 T2 T4 _ (HY2.out.keep hHeld (by simp)) (HY4.out.keep hHeld (by simp)) (by have := LL.out.2.1; omega)
      rw [Q6.out] at hsm
      refine call_at (i := 40) (f := ?_) (args := ?_) rfl (by kernel_rfl) (by rfl) ?_ ?_
      rotate_left 2
      · go_simp
        (try (first | with_reducible rfl | (apply And.intro <;> rfl)))
      refine hsm.mono ?_
      rintro e_ wv ⟨rfl, kk, rfl⟩
      clear hsm
      refine ⟨_, rfl, hHeld.drewN kk, fun hHeld => ?_⟩
      simp only [Act.put, List.setIfInBounds_toArray, List.set_cons_zero, List.set_cons_succ]
      refine run_at (i := 41) (v := ?_) rfl (by kernel_rfl) (by rfl) (fun _ _ _ h => h) hHeld (fun w1 hw1 => ?_) ?_
      rotate_left 1
      · skip
        go_simp
        (try (first | with_reducible rfl | (apply And.intro <;> rfl)))
      simp only [Act.put, List.setIfInBounds_toArray, List.set_cons_zero, List.set_cons_succ]
      refine run_at (i := 42) (v := ?_) rfl (by kernel_rfl) (by rfl) (fun _ _ _ h => h) hHeld (fun w1 hw1 => ?_) ?_
      rotate_left 1
      · skip
        go_simp
        (try (first | with_reducible rfl | (apply And.intro <;> rfl)))
      simp only [Act.put, List.setIfInBounds_toArray, List.set_cons_zero, List.set_cons_succ]
      refine run_at (i := 43) (v := ?_) rfl (by kernel_rfl) (by rfl) (fun _ _ _ h => h) hHeld (fun w1 hw1 => ?_) ?_
      rotate_left 1
      · skip
        go_simp
        (try (first | with_reducible rfl | (apply And.intro <;> rfl)))
      simp only [Act.put, List.setIfInBounds_toArray, List.set_cons_zero, List.set_cons_succ]
      refine run_at (i := 44) (v := ?_) rfl (by kernel_rfl) (by rfl) (fun _ _ _ h => h) hHeld (fun w1 hw1 => ?_) ?_
      rotate_left 1
      · skip
        go_simp
        (try (first | with_reducible rfl | (apply And.intro <;> rfl)))
      simp only [Act.put, List.setIfInBounds_toArray, List.set_cons_zero, List.set_cons_succ]
      refine run_at (i := 45) (v := ?_) rfl (by kernel_rfl) (by rfl) (fun _ _ _ h => h) hHeld (fun w1 hw1 => ?_) ?_
      rotate_left 1
      · skip
        go_simp
        (try (first | with_reducible rfl | (apply And.intro <;> rfl)))
      simp only [Act.put, List.setIfInBounds_toArray, List.set_cons_zero, List.set_cons_succ]
      have hsm := same_any A0 A6 T0.length T6.length c0 c6 T0 T6 _ (HY0.out.keep hHeld (by simp)) (HY6.out.keep hHeld (by simp)) (by have := LL.out.1; omega)
      rw [Q7.out] at hsm
      refine call_at (i := 46) (f := ?_) (args := ?_) rfl (by kernel_rfl) (by rfl) ?_ ?_
      rotate_left 2
      · go_simp
        (try (first | with_reducible rfl | (apply And.intro <;> rfl)))
      refine hsm.mono ?_
      rintro e_ wv ⟨rfl, kk, rfl⟩
      clear hsm
      refine ⟨_, rfl, hHeld.drewN kk, fun hHeld => ?_⟩
      simp only [Act.put, List.setIfInBounds_toArray, List.set_cons_zero, List.set_cons_succ]
      refine run_at (i := 47) (v := ?_) rfl (by kernel_rfl) (by rfl) (fun _ _ _ h => h) hHeld (fun w1 hw1 => ?_) ?_
      rotate_left 1
      · skip
        go_simp
        (try (first | with_reducible rfl | (apply And.intro <;> rfl)))
      simp only [Act.put, List.setIfInBounds_toArray, List.set_cons_zero, List.set_cons_succ]
      refine run_at (i := 48) (v := ?_) rfl (by kernel_rfl) (by rfl) (fun _ _ _ h => h) hHeld (fun w1 hw1 => ?_) ?_
      rotate_left 1
      · skip
        go_simp
        (try (first | with_reducible rfl | (apply And.intro <;> rfl)))
      simp only [Act.put, List.setIfInBounds_toArray, List.set_cons_zero, List.set_cons_succ]
      refine run_at (i := 49) (v := ?_) rfl (by kernel_rfl) (by rfl) (fun _ _ _ h => h) hHeld (fun w1 hw1 => ?_) ?_
      rotate_left 1
      · skip
        go_simp
        (try (first | with_reducible rfl | (apply And.intro <;> rfl)))
      simp only [Act.put, List.setIfInBounds_toArray, List.set_cons_zero, List.set_cons_succ]
      refine call_at (i := 50) (f := ?_) (args := ?_) rfl (by kernel_rfl) (by rfl) ?_ ?_
      rotate_left 2
      · go_simp
        (try (first | with_reducible rfl | (apply And.intro <;> rfl)))
      refine (wwakes_any _).mono ?_
      rintro e_ wv ⟨rfl, hfv⟩
      refine ⟨_, rfl, hHeld.and hfv (by simp), fun hHeld => ?_⟩
      simp only [Act.put, List.setIfInBounds_toArray, List.set_cons_zero, List.set_cons_succ]
      refine run_at (i := 51) (v := ?_) rfl (by kernel_rfl) (by rfl) (fun _ _ _ h => h) hHeld (fun w1 hw1 => ?_) ?_
      rotate_left 1
      · skip
        go_simp
        (try (first | with_reducible rfl | (apply And.intro <;> rfl)))
      simp only [Act.put, List.setIfInBounds_toArray, List.set_cons_zero, List.set_cons_succ]
      refine run_at (i := 52) (v := ?_) rfl (by kernel_rfl) (by rfl) (fun _ _ _ h => h) hHeld (fun w1 hw1 => ?_) ?_
      rotate_left 1
      · skip
        go_simp
        (try (first | with_reducible rfl | (apply And.intro <;> rfl)))
      simp only [Act.put, List.setIfInBounds_toArray, List.set_cons_zero, List.set_cons_succ]
      refine wpAnyH_done (by kernel_rfl) ?_ _
      go_wp2
      go_ret
      exact ⟨rfl, HF.out.and hHeld (by simp)⟩
end Go.Proofs.Ytdgbcdmooklciaa
