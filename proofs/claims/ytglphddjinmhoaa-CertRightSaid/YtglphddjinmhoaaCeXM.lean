/- CertRight's walk. (written by gen_cex.py) -/
import Derived.Test.YtglphddjinmhoaaKH1
import Derived.StillTailTactics
import Derived.Deep.DeepCutAuto
import Derived.Deep.CutBlock
namespace Go.Proofs.Ytglphddjinmhoaa
open Go.RowKit
set_option maxRecDepth 100000

theorem built_cfC (f k : Int) : Try.prog.built 34 [(0, .int .i64 f), (1, .int .i64 k)] = some #[.int .i64 f, .int .i64 k] := by kernel_rfl
theorem built_nmC (c s : Int) : Try.prog.built 32 [(0, .int .i64 c), (1, .int .i64 s)] = some #[.int .i64 c, .int .i64 s] := by kernel_rfl
theorem by_ltC {w : World} {A : Option Addr} {n : Nat} {l : List UInt8} (h : By w A n l) (hn : 0 < n) (a : Addr) (ha : A = some a) : a.block < w.heap.size := by
  obtain ⟨ad, b, e, _, hc⟩ := h.at hn
  rw [e] at ha
  injection ha with ha
  subst ha
  have := World.block_lt_of_cell? _ _ hc
  rwa [add_block] at this
theorem by_keepC {w w' : World} {S : List Nat} {A : Option Addr} {n : Nat} {l : List UInt8} (h : By w A n l) (hf : Fr S w w') (hA : 0 < n → ∀ a, A = some a → ¬ a.block ∈ S) : By w' A n l := by
  rcases Nat.eq_zero_or_pos n with h0 | h0
  · subst h0
    have : l = [] := List.eq_nil_of_length_eq_zero h.1
    subst this
    exact By.nil _ _
  · exact h.keep hf (hA h0)
/-- a certificate as Books.Cert makes it, in the box gX -/
def CeAt (wb w : World) (gX : Nat) (Sb : List Nat) (gb gr : Nat) (m : Nat) (z : Cm) (A : Option Addr) (c : Nat) (L : List Wst) (l : List Ent) (Sr : List Nat) : Prop :=
  z.Ok ∧ Blk w gX 54 (z.cells ++ [Value.slice A m c]).toArray ∧ w.ownsRow 0 51 38 (.slice A m c) m (L.flatMap Wst.cells) ∧ L.length = m ∧ (∀ v ∈ L, v.Ok) ∧ BB w Sb gb Sr gr l ∧ l.length ≤ 100 ∧ (∀ q ∈ Sr, q < wb.heap.size → q = gr) ∧ (∀ q ∈ Sr, q ≠ gX) ∧
    (∀ q ∈ bk A, wb.heap.size ≤ q ∧ q ≠ gX ∧ ¬ q ∈ Sr) ∧ wb.heap.size ≤ gX ∧ gX < w.heap.size ∧ Fr (Sb ++ [gr]) wb w
theorem lst_blkC {w : World} {g m : Nat} {e : TypeId} {L : List Wst} {R : List Value} (hb : Blk w g e (L.flatMap Wst.cells ++ R).toArray) (hl : L.length = m) (hok : ∀ v ∈ L, v.Ok) : Lst 38 Wst.cells (fun _ v => v.Ok) w (some ⟨g, 0, none⟩) m L := by
  refine ⟨hl, fun v hv => ⟨Wst.len (hok v hv).h, hok v hv⟩, fun _ => ⟨_, rfl, fun i v hi j x hx => ?_⟩⟩
  rw [add_at, hb.cell (i * 38 + j)]
  have h := flat_at (cells := Wst.cells) (fun v hv => Wst.len (hok v hv).h) hi hx
  rw [List.getElem?_toArray, List.getElem?_append_left (List.getElem?_eq_some_iff.1 h).1]
  exact h
theorem lst_oneC {w : World} {g m : Nat} {e : TypeId} {L : List Wst} {R : List Value} (hb : Blk w g e (L.flatMap Wst.cells ++ R).toArray) (hl : L.length = m) (hok : ∀ v ∈ L, v.Ok) {q : Nat} {v v' : Wst} (hq : L[q]? = some v) {j : Nat} (hj : j < 38) {u : Value} (hv' : v'.cells = v.cells.set j u) (hok' : v'.Ok) :
    Lst 38 Wst.cells (fun _ v => v.Ok) (w.setCell ⟨g, q * 38 + j, none⟩ u) (some ⟨g, 0, none⟩) m (L.set q v') := by
  have hb' := hb.set (q * 38 + j) u
  have hql := (List.getElem?_eq_some_iff.1 hq).1
  have hvl : v.cells.length = 38 := Wst.len (hok v (List.mem_of_getElem? hq)).h
  refine ⟨by simp [hl], fun x hx => ?_, fun _ => ⟨_, rfl, fun i x hi j' y hy => ?_⟩⟩
  · rcases List.mem_or_eq_of_mem_set hx with h | h
    · exact ⟨Wst.len (hok x h).h, hok x h⟩
    · rw [h]; exact ⟨Wst.len hok'.h, hok'⟩
  · have hlen : ∀ v ∈ L, (Wst.cells v).length = 38 := fun v hv => Wst.len (hok v hv).h
    have hq0 := flat_at hlen hq (List.getElem?_eq_getElem (show j < v.cells.length by omega))
    have hq1 := (List.getElem?_eq_some_iff.1 hq0).1
    rw [add_at, hb'.cell (i * 38 + j'), List.setIfInBounds_toArray, List.getElem?_toArray]
    by_cases hiq : q = i
    · subst hiq
      rw [List.getElem?_set_self hql] at hi
      injection hi with hi
      subst hi
      rw [hv'] at hy
      have hj' : j' < 38 := by have := (List.getElem?_eq_some_iff.1 hy).1; simpa [hvl] using this
      by_cases hjj : j = j'
      · subst hjj
        rw [List.getElem?_set_self (by omega)] at hy
        rw [List.getElem?_set_self (by rw [List.length_append]; omega)]
        exact hy
      · rw [List.getElem?_set_ne hjj] at hy
        rw [List.getElem?_set_ne (by omega)]
        have h := flat_at hlen hq hy
        rw [List.getElem?_append_left (List.getElem?_eq_some_iff.1 h).1]
        exact h
    · rw [List.getElem?_set_ne hiq] at hi
      have hj' : j' < 38 := by
        have h1 := (List.getElem?_eq_some_iff.1 hy).1
        rw [hlen x (List.mem_of_getElem? hi)] at h1
        exact h1
      rw [List.getElem?_set_ne (by omega)]
      have h := flat_at hlen hi hy
      rw [List.getElem?_append_left (List.getElem?_eq_some_iff.1 h).1]
      exact h
theorem lst_tailC {w : World} {g m : Nat} {L : List Wst} (h : Lst 38 Wst.cells (fun _ v => v.Ok) w (some ⟨g, 0, none⟩) m L) (hm : 1 ≤ m) : Lst 38 Wst.cells (fun _ v => v.Ok) w (some ⟨g, 38, none⟩) (m - 1) (L.drop 1) := by
  refine ⟨by rw [List.length_drop, h.1], fun v hv => h.2.1 v (List.mem_of_mem_drop hv), fun _ => ⟨_, rfl, fun i v hi j x hx => ?_⟩⟩
  obtain ⟨ad, e, hc⟩ := h.2.2 (by omega)
  injection e with e
  subst e
  rw [List.getElem?_drop] at hi
  have := hc (1 + i) v hi j x hx
  rw [add_off] at this ⊢
  rw [show 38 + (i * 38 + j) = 0 + ((1 + i) * 38 + j) by omega]
  exact this
theorem wrap_i64_in (z : Int) : i64In (wrap64 z) := by unfold i64In wrap64; omega
theorem cells_tC (v : Wst) (hh : v.h.length = 32) (t : Nat) : (⟨v.r, v.c, v.s, v.h, t, v.b, v.m⟩ : Wst).cells = v.cells.set 35 (.int .u64 (t : Int)) := by simp [Wst.cells, List.set_append, hh]
theorem cells_rC (v : Wst) (r : Int) : (⟨r, v.c, v.s, v.h, v.t, v.b, v.m⟩ : Wst).cells = v.cells.set 0 (.int .i64 r) := by simp [Wst.cells]
theorem cells_mC (v : Wst) (hh : v.h.length = 32) (m : Int) : (⟨v.r, v.c, v.s, v.h, v.t, v.b, m⟩ : Wst).cells = v.cells.set 37 (.int .i64 m) := by simp [Wst.cells, List.set_append, hh]
theorem xor1C (b : UInt8) : ∃ d : UInt8, bits .xor .u8 (b.toNat : Int) 1 = (d.toNat : Int) ∧ d ≠ b := by
  refine ⟨b ^^^ 1, ?_, ?_⟩
  · have key : ∀ a : Fin 256, bits .xor .u8 (((UInt8.ofNat a.val).toNat : Nat) : Int) 1 = (((UInt8.ofNat a.val) ^^^ 1).toNat : Int) := by decide +kernel
    have := key ⟨b.toNat, b.toNat_lt⟩
    simpa using this
  · have key : ∀ a : Fin 256, (UInt8.ofNat a.val) ^^^ 1 ≠ UInt8.ofNat a.val := by decide +kernel
    have := key ⟨b.toNat, b.toNat_lt⟩
    simpa using this
theorem cells_hC (z : Cm) (hh : z.h.length = 32) (d : UInt8) (u : Value) : (z.cells ++ [u]).toArray.setIfInBounds 5 (by8 d) = ((⟨z.c, z.s, z.h.set 3 d, z.n, z.b, z.m⟩ : Cm).cells ++ [u]).toArray := by
  simp [Cm.cells, List.set_append, hh, List.map_set]
theorem row_cer2 : RowTy Try.prog 54 38 := ⟨by kernel_rfl, by kernel_rfl⟩
/-- behind the switch: a certificate in the box gX, whatever was done to it; both books alike -/
structure CrX (w0 w : World) (gX : Nat) (Sb : List Nat) (gb gr Fn gC gKb : Nat) (z : Cm) (A : Option Addr) (n c : Nat) (L : List Wst) (l : List Ent) (Sr : List Nat) : Prop where
  fz : z.Ok
  fb : Blk w gX 54 (z.cells ++ [Value.slice A n c]).toArray
  fl : Lst 38 Wst.cells (fun _ v => v.Ok) w A n L
  fn : 0 < n ∧ n ≤ 8
  fc : n ≤ c
  fbb : BB w Sb gb Sr gr l
  fcf : Blk w gC 34 #[.int .i64 (Fn : Int), .int .i64 3]
  fbx : Blk w gKb 38 #[.pointer (some ⟨gb, 0, none⟩), .pointer (some ⟨gr, 0, none⟩)]
  ff : Fr [] w0 w
set_option maxHeartbeats 8000000 in
theorem certRight_walk (w : World) (f0 : Int) (hf1 : -9223372036854775808 ≤ f0) (hf2 : f0 < 9223372036854775808) (from_ : Int) (hg1 : -9223372036854775808 ≤ from_) (hg2 : from_ < 9223372036854775808)
    (c s : Int) (hc : i64In c) (hs : i64In s) (A : Option Addr) (n cp : Nat) (p : List UInt8) (hp : By w A n p) (hpc : n ≤ cp) (hpm : cp ≤ maxLen)
    (T : Option Addr) (nT cT : Nat) (lT : List Int) (hT : UL w T nT lT) (hTc : nT ≤ cT) (hTm : cT ≤ maxLen)
    (what : Int) (hw1 : -9223372036854775808 ≤ what) (hw2 : what < 9223372036854775808) (at_ : Int) (ha1 : -9223372036854775808 ≤ at_) (ha2 : at_ < 9223372036854775808) :
    Calls Try.prog 7 #[.int .i64 f0, .int .i64 from_, .agg #[.int .i64 c, .int .i64 s], .slice A n cp, .slice T nT cT, .int .i64 what, .int .i64 at_] w fun e w' => e = .returned (.bool true) ∧ Fr [] w w' := by
  obtain ⟨wa, hwa⟩ : ∃ wa, wa = w.alloc (Obj.cells #[.int .i64 c, .int .i64 s] 32) := ⟨_, rfl⟩
  have hf0 : Fr [] w wa := by rw [hwa]; exact (Fr.refl [] w).alloc _
  have hba : Blk wa w.heap.size 32 #[.int .i64 c, .int .i64 s] := by rw [hwa]; exact Blk.new _ _ _
  have HF0 := Lib.hid hf0
  have HWA := Lib.hid hwa
  have HBA := Lib.hid hba
  have HC := Lib.hid hc
  have HS := Lib.hid hs
  have HP := Lib.hid hp
  have HPN := Lib.hid (And.intro hpc (Nat.le_trans hpc hpm))
  have HT := Lib.hid hT
  have HTN : Hid (nT ≤ maxLen) := Lib.hid (Nat.le_trans hTc hTm)
  have HW := Lib.hid (And.intro hw1 hw2)
  have HAT := Lib.hid (And.intro ha1 ha2)
  have HFR := Lib.hid (And.intro hg1 hg2)
  have HWS : Hid (w.heap.size < wa.heap.size) := Lib.hid hba.lt
  have hmod := within_pos f0 3 hf1 hf2 (by decide) (by decide) wa
  obtain ⟨Fn, hF, hF1, hF2⟩ : ∃ Fn : Nat, 1 + f0 % 3 = (Fn : Int) ∧ 1 ≤ Fn ∧ Fn ≤ 3 := ⟨(1 + f0 % 3).toNat, by omega, by omega, by omega⟩
  have hm0 : 0 ≤ f0 % 3 := Int.emod_nonneg _ (by omega)
  have hm1 : f0 % 3 < 3 := Int.emod_lt_of_pos _ (by omega)
  generalize f0 % 3 = f3 at *
  have HFN := Lib.hid hF
  have HMOD := Lib.hid hmod
  clear hf0 hwa hba hc hs hp hpc hpm hT hTc hTm hw1 hw2 ha1 ha2 hg1 hg2 hf1 hf2 hF hmod
  go_enter Try.func7, Try.ntmps7
  go_upto_region 1 with (fail)
  change Code.wp _ _ _ _ (w.alloc (Obj.cells #[.int .i64 c, .int .i64 s] 32))
  rw [← HWA.out]
  go_upto_region 2 with (first
    | (go_at_call 14; refine HMOD.out.mono ?_; rintro e_ w' ⟨rfl, rfl⟩)
    | (refine wpList_builtg rfl 34 _ rfl _ _ (built_cfC (1 + f3) 3) rfl ?_)
    | (refine wpList_store_box rfl 34 _ _ rfl #[.int .i64 0, .int .i64 0] 34 [.int .i64 (1 + f3), .int .i64 3] rfl rfl (by kernel_rfl) rfl (by intro v hv; simp at hv; rcases hv with rfl | rfl <;> rfl) ?_; intro w1 hb1 hf1))
  simp only [Act.put]
  rw [HFN.out] at hb1 ⊢
  have hb1' : Blk w1 wa.heap.size 34 #[.int .i64 (Fn : Int), .int .i64 3] := by simpa using hb1
  have HCF1 := Lib.hid hb1'
  have HF1 := Lib.hid hf1
  clear hb1 hb1' hf1 HMOD hm0 hm1
  go_wp2_with fail
  refine (cenew_any w1).mono ?_
  rintro e w3 ⟨Sb, gb, gr, rfl, hb3, hr3, hf3, hn3, hg3, hng⟩
  have HB3 := Lib.hid hb3
  have HR3 := Lib.hid hr3
  have HF3 := Lib.hid hf3
  have HN3 := Lib.hid (And.intro hn3 (And.intro hg3 hng))
  clear hb3 hr3 hf3 hn3 hg3 hng
  go_upto_region 5 with (refine wpList_store_box rfl 38 _ _ rfl #[.pointer none, .pointer none] 38 [.pointer (some ⟨gb, 0, none⟩), .pointer (some ⟨gr, 0, none⟩)] rfl rfl (by kernel_rfl) rfl (by intro v hv; simp at hv; rcases hv with rfl | rfl <;> rfl) ?_; intro w4 hb4 hf4)
  have HBX4 := Lib.hid hb4
  have HF4 := Lib.hid hf4
  clear hb4 hf4
  obtain ⟨gC, hgC⟩ : ∃ gC, gC = wa.heap.size := ⟨_, rfl⟩
  obtain ⟨gKb, hgK⟩ : ∃ gKb, gKb = w3.heap.size := ⟨_, rfl⟩
  have HF14 := Lib.hid ((HF1.out.trans HF3.out (by simp)).trans HF4.out (by simp))
  have HLT : Hid (w.heap.size < gC ∧ gC < w1.heap.size ∧ w1.heap.size ≤ gKb ∧ gKb < w4.heap.size) := Lib.hid (by
    rw [hgC, hgK]
    exact ⟨HWS.out, HCF1.out.lt, HF3.out.size, HBX4.out.lt⟩)
  have HCF4 := Lib.hid ((HCF1.out.keep HF3.out (by simp)).keep HF4.out (by simp))
  have HBB4 : Hid (BB w4 Sb gb [gr] gr []) := Lib.hid ⟨HB3.out.keep HF4.out (by simp), HR3.out.keep HF4.out (by simp), List.nodup_nil, fun k hk hm => by simp at hk; subst hk; exact HN3.out.2.2 hm⟩
  have HSL : Hid ((∀ k ∈ Sb, w1.heap.size ≤ k ∧ k < gKb) ∧ w1.heap.size ≤ gr ∧ gr < gKb) := Lib.hid (by
    rw [hgK]
    exact ⟨fun k hk => ⟨HN3.out.1 k hk, HB3.out.lt k hk⟩, HN3.out.2.1, HR3.out.lt gr (by simp)⟩)
  rw [← hgC] at HCF4
  rw [← hgK] at HBX4
  clear HCF1 HB3 HR3 HN3
  have HFW4 : Hid (Fr [] w w4) := Lib.hid (HF0.out.trans HF14.out (by simp))
  have hba := HBA.out.keep HF14.out (by simp)
  have hx0 := hba.cell 0
  have hx1 := hba.cell 1
  have hz0 := hba.frozen 0
  have hz1 := hba.frozen 1
  simp only [List.getElem?_toArray, List.getElem?_cons_zero, List.getElem?_cons_succ] at hx0 hx1
  rw [← hgC, ← hgK]
  clear hgC hgK HBA HF0 HWA HF14 HF1 HF3 HF4 HWS
  go_still_tail 7, (by kernel_rfl)
  still_call ((within_pos c 4 HC.out.1 HC.out.2 (by omega) (by omega) _).mono fun _ _ h => ⟨h.1, h.2.symm⟩)
  repeat still_step
  still_call ((within_pos s 4 HS.out.1 HS.out.2 (by omega) (by omega) _).mono fun _ _ h => ⟨h.1, h.2.symm⟩)
  repeat still_step
  refine wpStill_nil ?_
  clear hx0 hx1 hz0 hz1
  change wpList _ _ _ _ _ w4.drew
  have hc0 : 0 ≤ c % 4 := Int.emod_nonneg _ (by omega)
  have hc1 : c % 4 < 4 := Int.emod_lt_of_pos _ (by omega)
  have hs0 : 0 ≤ s % 4 := Int.emod_nonneg _ (by omega)
  have hs1 : s % 4 < 4 := Int.emod_lt_of_pos _ (by omega)
  generalize c % 4 = C4 at *
  generalize s % 4 = S4 at *
  refine wpList_store_blk rfl 32 _ _ rfl (w.heap.size) #[.int .i64 C4, .int .i64 S4] rfl rfl 32 #[.int .i64 c, .int .i64 s] hba.drew (by kernel_rfl) rfl (by kernel_rfl) ?_
  intro wb hb3 hf3
  have HNM := Lib.hid hb3.range
  have hf43 : Fr [w.heap.size] w4 wb := ((Fr.refl [w.heap.size] w4).drew).trans hf3 (fun x hx _ => hx)
  have hsz4 : w4.heap.size ≤ wb.heap.size := hf43.size
  have HNS1 : Hid (∀ k ∈ Sb ++ [gr], w.heap.size < k ∧ k < wb.heap.size) := Lib.hid (fun k hk => by
    have h1 := HSL.out
    have h2 := HLT.out
    rcases List.mem_append.1 hk with h | h
    · have := h1.1 k h; omega
    · simp at h; omega)
  have HCFb := Lib.hid (HCF4.out.keep hf43 (by have := HLT.out; simp; omega))
  have HBXb := Lib.hid (HBX4.out.keep hf43 (by have := HLT.out; simp; omega))
  have HBBb := Lib.hid (HBB4.out.keep hf43 (fun k hk hm => by have := HNS1.out k (List.mem_append.2 (.inl hk)); simp at hm; omega) (fun k hk hm => by have := HNS1.out k (List.mem_append.2 (.inr hk)); simp at hm; omega))
  have HPb : Hid (By w4 A n p) := Lib.hid (HP.out.keep HFW4.out (by simp))
  have HTB : Hid (0 < nT → ∀ a, T = some a → a.block < w.heap.size) := Lib.hid (fun hn a ha => HT.out.lt hn a ha)
  have HPw : Hid (By wb A n p) := Lib.hid (by_keepC HPb.out hf43 (fun hn a ha hm => by have := by_ltC HP.out hn a ha; simp at hm; omega))
  have HTw : Hid (UL wb T nT lT) := Lib.hid (Lst.keep' (HT.out.keep HFW4.out (by simp)) hf43 (fun hn a ha hm => by have := HTB.out hn a ha; simp at hm; omega) (fun _ _ h => h))
  have HFWb : Hid (Fr [] w wb) := Lib.hid (HFW4.out.and hf43 (by simp))
  have hwb : w.heap.size ≤ wb.heap.size := HFWb.out.size
  clear hf43 hb3 hf3 hba HPb HCF4 HBX4 HBB4
  (try simp only [Act.put])
  go_upto_region 6 with (fail)
  (try simp only [Act.put])
  go_cut [18] (fun s18 wx => ∃ (gX : Nat) (z : Cm) (A8 : Option Addr) (c8 : Nat) (L : List Wst) (l8 : List Ent) (Sr8 : List Nat), s18 = .pointer (some ⟨gX, 0, none⟩) ∧ Hid (CeAt wb wx gX Sb gb gr (2 * Fn + 1) z A8 c8 L l8 Sr8))
  case first =>
    rename_i J K2 hJ hK2
    have HNS : Hid (¬ w.heap.size ∈ Sb ++ [gr]) := Lib.hid (fun hm => by have := HNS1.out _ hm; omega)
    have HNC : Hid (¬ gC ∈ Sb ++ [gr]) := Lib.hid (fun hm => by
      have h1 := HSL.out
      have h2 := HLT.out
      rcases List.mem_append.1 hm with h | h
      · have := h1.1 _ h; omega
      · simp at h; omega)
    have HNK : Hid (¬ gKb ∈ Sb ++ [gr]) := Lib.hid (fun hm => by
      have h1 := HSL.out
      have h2 := HLT.out
      rcases List.mem_append.1 hm with h | h
      · have := h1.1 _ h; omega
      · simp at h; omega)
    as_aux_lemma =>
    refine wp_region_held_drew (S := Fr (Sb ++ [gr]) wb) (by kernel_rfl) (Fr.drew (Fr.refl _ wb)) (fun hHeld => ?_)
    have hE : Fr [] wb wb.drew := Fr.drew (Fr.refl [] wb)
    obtain ⟨W0, hW0⟩ : ∃ W0, W0 = wb.drew := ⟨_, rfl⟩
    rw [← hW0] at hE hHeld ⊢
    clear hW0
    refine row_at (i := 0) rfl (by kernel_rfl) (by rfl) _ _ rfl _ _ rfl _ (fun w1 hw1 => hw1.range HBXb.out.range HNK.out) (row_books) (fun _ _ _ h => h) hHeld ?_
    simp only [Act.put, List.setIfInBounds_toArray, List.set_cons_zero, List.set_cons_succ]
    refine row_at (i := 1) rfl (by kernel_rfl) (by rfl) _ _ rfl _ _ rfl _ (fun w1 hw1 => hw1.range HCFb.out.range HNC.out) (row_conf) (fun _ _ _ h => h) hHeld ?_
    simp only [Act.put, List.setIfInBounds_toArray, List.set_cons_zero, List.set_cons_succ]
    refine row_at (i := 2) rfl (by kernel_rfl) (by rfl) _ _ rfl _ _ rfl _ (fun w1 hw1 => hw1.range HBXb.out.range HNK.out) (row_books) (fun _ _ _ h => h) hHeld ?_
    simp only [Act.put, List.setIfInBounds_toArray, List.set_cons_zero, List.set_cons_succ]
    refine row_at (i := 3) rfl (by kernel_rfl) (by rfl) _ _ rfl _ _ rfl _ (fun w1 hw1 => hw1.range HNM.out HNS.out) (row_name) (fun _ _ _ h => h) hHeld ?_
    simp only [Act.put, List.setIfInBounds_toArray, List.set_cons_zero, List.set_cons_succ]
    refine run_at (i := 4) (v := ?_) rfl (by kernel_rfl) (by rfl) (fun _ _ _ h => h) hHeld (fun w1 hw1 => ?_) ?_
    rotate_left 1
    · skip
      go_simp
      (try (first | with_reducible rfl | (apply And.intro <;> rfl)))
    simp only [Act.put, List.setIfInBounds_toArray, List.set_cons_zero, List.set_cons_succ]
    refine run_at (i := 7) (v := ?_) rfl (by kernel_rfl) (by rfl) (fun _ _ _ h => h) hHeld (fun w1 hw1 => ?_) ?_
    rotate_left 1
    · skip
      go_simp
      (try (first | with_reducible rfl | (apply And.intro <;> rfl)))
    simp only [Act.put, List.setIfInBounds_toArray, List.set_cons_zero, List.set_cons_succ]
    refine run_at (i := 8) (v := ?_) rfl (by kernel_rfl) (by rfl) (fun _ _ _ h => h) hHeld (fun w1 hw1 => ?_) ?_
    rotate_left 1
    · skip
      go_simp
      (try (first | with_reducible rfl | (apply And.intro <;> rfl)))
    simp only [Act.put, List.setIfInBounds_toArray, List.set_cons_zero, List.set_cons_succ]
    refine two_at (i := 5) (j := 10) rfl rfl (by kernel_rfl) (by rfl) (by rfl) (fun K hK => ?_) (fun K hK => ?_)
    focus
      refine wp_call (f := ?_) (args := ?_) ?_ ?_
      rotate_left 2
      · go_simp
        (try (first | with_reducible rfl | (apply And.intro <;> rfl)))
      refine (cut_any A n cp 5 p W0 (by_keepC HPw.out hE (by simp)) HPN.out.2 HPN.out.1 (by omega)).mono ?_
      rintro e w5 ⟨A5, c5, rfl, hN5⟩
      have hq5 := List.length_take_le 5 p
      generalize p.take 5 = q5 at *
      obtain ⟨m5, hm5⟩ : ∃ m5, m5 = q5.length := ⟨_, rfl⟩
      rw [← hm5] at hN5 hq5 ⊢
      have HM5 := Lib.hid hm5
      clear hm5
      refine ⟨_, rfl, hK.out _ _ (hHeld.trans hN5.2.1 (by simp)) (fun hHeld => ?_)⟩
      clear hK K
      simp only [Act.put, List.setIfInBounds_toArray, List.set_cons_zero, List.set_cons_succ]
      have hE5 : Fr [] wb w5 := hE.trans hN5.2.1 (by simp)
      refine two_at (i := 6) (j := 10) rfl rfl (by kernel_rfl) (by rfl) (by rfl) (fun K hK => ?_) (fun K hK => ?_)
      focus
        have hP6 := hN5.by
        have hE6 := hE5
        refine wp_call (f := ?_) (args := ?_) ?_ ?_
        rotate_left 2
        · go_simp
          (try (first | with_reducible rfl | (apply And.intro <;> rfl)))
        refine (bkCommit_any C4 S4 (by omega) ⟨by omega, by omega⟩ A5 m5 c5 q5 w5 hP6 (fun k hk => by have := hN5.lt k hk; omega) (by omega) Sb gb [gr] gr [] (HBBb.out.keep hE6 (by simp) (by simp)) (by simp)).mono ?_
        rintro e w6 ⟨rfl, Sr1, hB6, hF6, hs6⟩
        have HS6 := Lib.hid hs6
        clear hs6
        refine ⟨_, rfl, hK.out _ _ (hHeld.trans hF6 (fun x hx _ => hx)) (fun hHeld => ?_)⟩
        clear hK K
        simp only [Act.put, List.setIfInBounds_toArray, List.set_cons_zero, List.set_cons_succ]
        have hz : (made C4 S4 hzC q5 []).Ok := made_ok C4 S4 (by omega) ⟨by omega, by omega⟩ hzC q5 (by rw [← HM5.out]; omega) [] (by simp)
        have hl1 := sgn_lenC [] (1000 + C4, (made C4 S4 hzC q5 []).text)
        generalize sgn [] (1000 + C4, (made C4 S4 hzC q5 []).text) = l1 at *
        have hF06 : Fr (Sb ++ [gr]) wb w6 := (hE6.mono (T := Sb ++ [gr]) (by simp)).trans hF6 (fun x hx _ => hx)
        have HSr1x : Hid (∀ q ∈ Sr1, q < wb.heap.size → q = gr) := Lib.hid (fun q hq h => by have := HS6.out q hq (by have := hE6.size; omega); simpa using this)
        unfold Cm.val
        generalize made C4 S4 hzC q5 [] = z at *
        refine two_at (i := 9) (j := 10) rfl rfl (by kernel_rfl) (by rfl) (by rfl) (fun K hK => ?_) (fun K hK => ?_)
        focus
          have hF9 := hF06
          have hB9 := hB6
          refine wp_call (f := ?_) (args := ?_) ?_ ?_
          rotate_left 2
          · go_simp
            (try (first | with_reducible rfl | (apply And.intro <;> rfl)))
          have hc9 := bkCert_any Fn (by omega) 3 z hz from_ HFR.out.1 HFR.out.2 w6 T nT cT lT (Lst.keep' HTw.out hF9 (fun hn a ha hm => by have h1 := HTB.out hn a ha; have h2 := HNS1.out a.block hm; omega) (fun _ _ h => h)) HTN.out Sb gb Sr1 gr l1 hB9 (by simp at hl1; omega) (fun hn a ha hm => by
            have h1 := HTB.out hn a ha
            rcases List.mem_append.1 hm with h | h
            · have := HNS1.out a.block (List.mem_append.2 (.inl h)); omega
            · have h2 := HSr1x.out a.block h (by omega)
              have := HNS1.out gr (by simp)
              omega)
          refine hc9.mono ?_
          rintro e w8 ⟨A8, c8, L, l8, Sr8, rfl, hLL, hLO, hO8, hB8, hl8, hF8, hs8, ha8⟩
          have HS8 := Lib.hid hs8
          have HA8x := Lib.hid ha8
          have HLOx := Lib.hid hLO
          clear hs8 ha8 hLO
          have hF98 : Fr (Sb ++ [gr]) wb w8 := hF9.trans hF8 (fun x hx hl => by
            rcases List.mem_append.1 hx with h | h
            · exact List.mem_append.2 (.inl h)
            · rw [HSr1x.out x h hl]; simp)
          refine ⟨_, rfl, hK.out _ _ hF98 (fun hHeld => ?_)⟩
          clear hK K
          simp only [Act.put, List.setIfInBounds_toArray, List.set_cons_zero, List.set_cons_succ]
          have HSr8x : Hid (∀ q ∈ Sr8, q < wb.heap.size → q = gr) := Lib.hid (fun q hq h => HSr1x.out q (HS8.out q hq (by have := hF9.size; omega)) h)
          have HAgex : Hid (∀ q ∈ bk A8, wb.heap.size ≤ q) := Lib.hid (fun q hq => by have := own_ge hO8 q hq; have := hF9.size; omega)
          refine step_at (i := 10) rfl (by kernel_rfl) (by rfl) (fun K hK => ?_)
          refine wp_run (v := ?_) (w' := ?_) ?_ ?_
          rotate_left 2
          · go_simp
            (try (first | with_reducible rfl | (apply And.intro <;> rfl)))
          refine hK.out _ (w8.alloc (Obj.cells ceZ 54)) (hHeld.alloc _) (fun hHeld => ?_)
          clear hK K
          simp only [Act.put, List.setIfInBounds_toArray, List.set_cons_zero, List.set_cons_succ]
          have hX := Blk.new w8 54 ceZ
          have hE' : Fr [] w8 (w8.alloc (Obj.cells ceZ 54)) := (Fr.refl [] w8).alloc _
          have hXl : w8.heap.size < (w8.alloc (Obj.cells ceZ 54)).heap.size := hX.lt
          obtain ⟨gX, hgX⟩ : ∃ gX, gX = w8.heap.size := ⟨_, rfl⟩
          rw [← hgX] at hX hXl ⊢
          have hXg : wb.heap.size ≤ gX := by have := hF98.size; omega
          have hF8X := hF98.trans hE' (by simp)
          have HXSx : Hid (∀ q ∈ Sr8, q ≠ gX) := Lib.hid (fun q hq e => by have := hB8.r.lt q hq; omega)
          have HXAx : Hid (∀ q ∈ bk A8, q ≠ gX) := Lib.hid (fun q hq e => by have := own_lt hO8 q ((bk_mem A8 (2 * Fn + 1) c8 q).2 hq); omega)
          have hO8X := own_keep hO8 hE' (by simp)
          have hB8X := hB8.keep hE' (by simp) (by simp)
          clear hE'
          generalize w8.alloc (Obj.cells ceZ 54) = w8x at *
          refine step_at (i := 11) rfl (by kernel_rfl) (by rfl) (fun K hK => ?_)
          have hvl : (z.cells ++ [Value.slice A8 (2 * Fn + 1) c8]).length = 38 := by simp [Cm.len hz.h]
          refine wp_store_blk 54 _ _ rfl gX (z.cells ++ [Value.slice A8 (2 * Fn + 1) c8]).toArray rfl rfl 54 ceZ hX (by rw [List.size_toArray, hvl]; kernel_rfl) ((show ceZ.size = 38 from rfl).trans (by rw [List.size_toArray, hvl])) (all_oneCell_toArray (fun v hv => by
            rcases List.mem_append.1 hv with h | h
            · exact Cm.one z v h
            · rw [List.mem_singleton.1 h]; rfl)) ?_
          intro w11 hb11 hf11
          refine hK.out _ _ (hF8X.trans hf11 (fun x hx hl => by simp at hx; omega)) (fun hHeld => ?_)
          clear hK K
          simp only [Act.put, List.setIfInBounds_toArray, List.set_cons_zero, List.set_cons_succ]
          refine wpAnyH_done (by kernel_rfl) ?_ _
          refine hK2 _ _ (Met.intro (hJ _ _ ?_))
          repeat apply Exists.intro
          refine ⟨?_, rfl⟩
          exact ⟨gX, z, A8, c8, L, l8, Sr8, rfl, Lib.hid ⟨hz, hb11, own_keep (own_any hO8X (Nat.zero_le _)) hf11 (fun q hq hm => by rw [bk_mem] at hq; simp at hm; exact HXAx.out q hq hm), hLL, HLOx.out, hB8X.keep hf11 (fun q hq hm => by have := HNS1.out q (List.mem_append.2 (.inl hq)); simp at hm; omega) (fun q hq hm => HXSx.out q hq (by simpa using hm)), by simp at hl1; omega, HSr8x.out, HXSx.out, fun q hq => ⟨HAgex.out q hq, HXAx.out q hq, HA8x.out q hq⟩, hXg, hb11.lt, hF8X.trans hf11 (fun x hx hl => by simp at hx; omega)⟩⟩
        refine wp_run (v := ?_) (w' := ?_) ?_ ?_
        rotate_left 2
        · go_simp
          (try (first | with_reducible rfl | (apply And.intro <;> rfl)))
        refine hK.out _ (w6.alloc (Obj.cells ceZ 54)) (hHeld.alloc _) (fun hHeld => ?_)
        clear hK K
        simp only [Act.put, List.setIfInBounds_toArray, List.set_cons_zero, List.set_cons_succ]
        have hX := Blk.new w6 54 ceZ
        have hE' : Fr [] w6 (w6.alloc (Obj.cells ceZ 54)) := (Fr.refl [] w6).alloc _
        have hXl : w6.heap.size < (w6.alloc (Obj.cells ceZ 54)).heap.size := hX.lt
        obtain ⟨gX, hgX⟩ : ∃ gX, gX = w6.heap.size := ⟨_, rfl⟩
        rw [← hgX] at hX hXl ⊢
        have hXg : wb.heap.size ≤ gX := by have := hF06.size; omega
        have hF9 := hF06.trans hE' (by simp)
        have hB9 := hB6.keep hE' (by simp) (by simp)
        have HXS1x : Hid (∀ q ∈ Sr1, q ≠ gX) := Lib.hid (fun q hq e => by have := hB6.r.lt q hq; omega)
        clear hE'
        generalize w6.alloc (Obj.cells ceZ 54) = W3 at *
        clear hgX
        refine call_at (i := 9) (f := ?_) (args := ?_) rfl (by kernel_rfl) (by rfl) ?_ ?_
        rotate_left 2
        · go_simp
          (try (first | with_reducible rfl | (apply And.intro <;> rfl)))
        have hc9 := bkCert_any Fn (by omega) 3 z hz from_ HFR.out.1 HFR.out.2 W3 T nT cT lT (Lst.keep' HTw.out hF9 (fun hn a ha hm => by have h1 := HTB.out hn a ha; have h2 := HNS1.out a.block hm; omega) (fun _ _ h => h)) HTN.out Sb gb Sr1 gr l1 hB9 (by simp at hl1; omega) (fun hn a ha hm => by
          have h1 := HTB.out hn a ha
          rcases List.mem_append.1 hm with h | h
          · have := HNS1.out a.block (List.mem_append.2 (.inl h)); omega
          · have h2 := HSr1x.out a.block h (by omega)
            have := HNS1.out gr (by simp)
            omega)
        refine hc9.mono ?_
        rintro e w8 ⟨A8, c8, L, l8, Sr8, rfl, hLL, hLO, hO8, hB8, hl8, hF8, hs8, ha8⟩
        have HS8 := Lib.hid hs8
        have HA8x := Lib.hid ha8
        have HLOx := Lib.hid hLO
        clear hs8 ha8 hLO
        have hF98 : Fr (Sb ++ [gr]) wb w8 := hF9.trans hF8 (fun x hx hl => by
          rcases List.mem_append.1 hx with h | h
          · exact List.mem_append.2 (.inl h)
          · rw [HSr1x.out x h hl]; simp)
        refine ⟨_, rfl, hF98, fun hHeld => ?_⟩
        simp only [Act.put, List.setIfInBounds_toArray, List.set_cons_zero, List.set_cons_succ]
        have HSr8x : Hid (∀ q ∈ Sr8, q < wb.heap.size → q = gr) := Lib.hid (fun q hq h => HSr1x.out q (HS8.out q hq (by have := hF9.size; omega)) h)
        have HAgex : Hid (∀ q ∈ bk A8, wb.heap.size ≤ q) := Lib.hid (fun q hq => by have := own_ge hO8 q hq; have := hF9.size; omega)
        have hX := hX.keep hF8 (fun hm => by
          rcases List.mem_append.1 hm with h | h
          · have := HNS1.out gX (List.mem_append.2 (.inl h)); omega
          · exact HXS1x.out gX h rfl)
        have HXSx : Hid (∀ q ∈ Sr8, q ≠ gX) := Lib.hid (fun q hq e => by subst e; exact HXS1x.out _ (HS8.out _ hq hXl) rfl)
        have HXAx : Hid (∀ q ∈ bk A8, q ≠ gX) := Lib.hid (fun q hq e => by subst e; have := own_ge hO8 _ hq; omega)
        have hF8X := hF98
        have hO8X := hO8
        have hB8X := hB8
        refine step_at (i := 11) rfl (by kernel_rfl) (by rfl) (fun K hK => ?_)
        have hvl : (z.cells ++ [Value.slice A8 (2 * Fn + 1) c8]).length = 38 := by simp [Cm.len hz.h]
        refine wp_store_blk 54 _ _ rfl gX (z.cells ++ [Value.slice A8 (2 * Fn + 1) c8]).toArray rfl rfl 54 ceZ hX (by rw [List.size_toArray, hvl]; kernel_rfl) ((show ceZ.size = 38 from rfl).trans (by rw [List.size_toArray, hvl])) (all_oneCell_toArray (fun v hv => by
          rcases List.mem_append.1 hv with h | h
          · exact Cm.one z v h
          · rw [List.mem_singleton.1 h]; rfl)) ?_
        intro w11 hb11 hf11
        refine hK.out _ _ (hF8X.trans hf11 (fun x hx hl => by simp at hx; omega)) (fun hHeld => ?_)
        clear hK K
        simp only [Act.put, List.setIfInBounds_toArray, List.set_cons_zero, List.set_cons_succ]
        refine wpAnyH_done (by kernel_rfl) ?_ _
        refine hK2 _ _ (Met.intro (hJ _ _ ?_))
        repeat apply Exists.intro
        refine ⟨?_, rfl⟩
        exact ⟨gX, z, A8, c8, L, l8, Sr8, rfl, Lib.hid ⟨hz, hb11, own_keep (own_any hO8X (Nat.zero_le _)) hf11 (fun q hq hm => by rw [bk_mem] at hq; simp at hm; exact HXAx.out q hq hm), hLL, HLOx.out, hB8X.keep hf11 (fun q hq hm => by have := HNS1.out q (List.mem_append.2 (.inl hq)); simp at hm; omega) (fun q hq hm => HXSx.out q hq (by simpa using hm)), by simp at hl1; omega, HSr8x.out, HXSx.out, fun q hq => ⟨HAgex.out q hq, HXAx.out q hq, HA8x.out q hq⟩, hXg, hb11.lt, hF8X.trans hf11 (fun x hx hl => by simp at hx; omega)⟩⟩
      refine wp_run (v := ?_) (w' := ?_) ?_ ?_
      rotate_left 2
      · go_simp
        (try (first | with_reducible rfl | (apply And.intro <;> rfl)))
      refine hK.out _ (w5.alloc (Obj.cells ceZ 54)) (hHeld.alloc _) (fun hHeld => ?_)
      clear hK K
      simp only [Act.put, List.setIfInBounds_toArray, List.set_cons_zero, List.set_cons_succ]
      have hX := Blk.new w5 54 ceZ
      have hE' : Fr [] w5 (w5.alloc (Obj.cells ceZ 54)) := (Fr.refl [] w5).alloc _
      have hXl : w5.heap.size < (w5.alloc (Obj.cells ceZ 54)).heap.size := hX.lt
      obtain ⟨gX, hgX⟩ : ∃ gX, gX = w5.heap.size := ⟨_, rfl⟩
      rw [← hgX] at hX hXl ⊢
      have hXg : wb.heap.size ≤ gX := by have := hE5.size; omega
      have hE6 := hE5.trans hE' (by simp)
      have hP6 := by_keepC hN5.by hE' (by simp)
      have hlt6 : w5.heap.size ≤ (w5.alloc (Obj.cells ceZ 54)).heap.size := hE'.size
      clear hE'
      generalize w5.alloc (Obj.cells ceZ 54) = W2 at *
      clear hgX
      refine call_at (i := 6) (f := ?_) (args := ?_) rfl (by kernel_rfl) (by rfl) ?_ ?_
      rotate_left 2
      · go_simp
        (try (first | with_reducible rfl | (apply And.intro <;> rfl)))
      refine (bkCommit_any C4 S4 (by omega) ⟨by omega, by omega⟩ A5 m5 c5 q5 W2 hP6 (fun k hk => by have := hN5.lt k hk; omega) (by omega) Sb gb [gr] gr [] (HBBb.out.keep hE6 (by simp) (by simp)) (by simp)).mono ?_
      rintro e w6 ⟨rfl, Sr1, hB6, hF6, hs6⟩
      have HS6 := Lib.hid hs6
      clear hs6
      refine ⟨_, rfl, hHeld.trans hF6 (fun x hx _ => hx), fun hHeld => ?_⟩
      simp only [Act.put, List.setIfInBounds_toArray, List.set_cons_zero, List.set_cons_succ]
      have hX := hX.keep hF6 (fun hm => by have := HNS1.out gX hm; omega)
      have HXS1x : Hid (∀ q ∈ Sr1, q ≠ gX) := Lib.hid (fun q hq e => by subst e; have := HS6.out _ hq hXl; have := HNS1.out _ (List.mem_append.2 (.inr this)); omega)
      have hXl := Nat.lt_of_lt_of_le hXl hF6.size
      have hz : (made C4 S4 hzC q5 []).Ok := made_ok C4 S4 (by omega) ⟨by omega, by omega⟩ hzC q5 (by rw [← HM5.out]; omega) [] (by simp)
      have hl1 := sgn_lenC [] (1000 + C4, (made C4 S4 hzC q5 []).text)
      generalize sgn [] (1000 + C4, (made C4 S4 hzC q5 []).text) = l1 at *
      have hF06 : Fr (Sb ++ [gr]) wb w6 := (hE6.mono (T := Sb ++ [gr]) (by simp)).trans hF6 (fun x hx _ => hx)
      have HSr1x : Hid (∀ q ∈ Sr1, q < wb.heap.size → q = gr) := Lib.hid (fun q hq h => by have := HS6.out q hq (by have := hE6.size; omega); simpa using this)
      unfold Cm.val
      generalize made C4 S4 hzC q5 [] = z at *
      have hF9 := hF06
      have hB9 := hB6
      refine call_at (i := 9) (f := ?_) (args := ?_) rfl (by kernel_rfl) (by rfl) ?_ ?_
      rotate_left 2
      · go_simp
        (try (first | with_reducible rfl | (apply And.intro <;> rfl)))
      have hc9 := bkCert_any Fn (by omega) 3 z hz from_ HFR.out.1 HFR.out.2 w6 T nT cT lT (Lst.keep' HTw.out hF9 (fun hn a ha hm => by have h1 := HTB.out hn a ha; have h2 := HNS1.out a.block hm; omega) (fun _ _ h => h)) HTN.out Sb gb Sr1 gr l1 hB9 (by simp at hl1; omega) (fun hn a ha hm => by
        have h1 := HTB.out hn a ha
        rcases List.mem_append.1 hm with h | h
        · have := HNS1.out a.block (List.mem_append.2 (.inl h)); omega
        · have h2 := HSr1x.out a.block h (by omega)
          have := HNS1.out gr (by simp)
          omega)
      refine hc9.mono ?_
      rintro e w8 ⟨A8, c8, L, l8, Sr8, rfl, hLL, hLO, hO8, hB8, hl8, hF8, hs8, ha8⟩
      have HS8 := Lib.hid hs8
      have HA8x := Lib.hid ha8
      have HLOx := Lib.hid hLO
      clear hs8 ha8 hLO
      have hF98 : Fr (Sb ++ [gr]) wb w8 := hF9.trans hF8 (fun x hx hl => by
        rcases List.mem_append.1 hx with h | h
        · exact List.mem_append.2 (.inl h)
        · rw [HSr1x.out x h hl]; simp)
      refine ⟨_, rfl, hF98, fun hHeld => ?_⟩
      simp only [Act.put, List.setIfInBounds_toArray, List.set_cons_zero, List.set_cons_succ]
      have HSr8x : Hid (∀ q ∈ Sr8, q < wb.heap.size → q = gr) := Lib.hid (fun q hq h => HSr1x.out q (HS8.out q hq (by have := hF9.size; omega)) h)
      have HAgex : Hid (∀ q ∈ bk A8, wb.heap.size ≤ q) := Lib.hid (fun q hq => by have := own_ge hO8 q hq; have := hF9.size; omega)
      have hX := hX.keep hF8 (fun hm => by
        rcases List.mem_append.1 hm with h | h
        · have := HNS1.out gX (List.mem_append.2 (.inl h)); omega
        · exact HXS1x.out gX h rfl)
      have HXSx : Hid (∀ q ∈ Sr8, q ≠ gX) := Lib.hid (fun q hq e => by subst e; exact HXS1x.out _ (HS8.out _ hq hXl) rfl)
      have HXAx : Hid (∀ q ∈ bk A8, q ≠ gX) := Lib.hid (fun q hq e => by subst e; have := own_ge hO8 _ hq; omega)
      have hF8X := hF98
      have hO8X := hO8
      have hB8X := hB8
      refine step_at (i := 11) rfl (by kernel_rfl) (by rfl) (fun K hK => ?_)
      have hvl : (z.cells ++ [Value.slice A8 (2 * Fn + 1) c8]).length = 38 := by simp [Cm.len hz.h]
      refine wp_store_blk 54 _ _ rfl gX (z.cells ++ [Value.slice A8 (2 * Fn + 1) c8]).toArray rfl rfl 54 ceZ hX (by rw [List.size_toArray, hvl]; kernel_rfl) ((show ceZ.size = 38 from rfl).trans (by rw [List.size_toArray, hvl])) (all_oneCell_toArray (fun v hv => by
        rcases List.mem_append.1 hv with h | h
        · exact Cm.one z v h
        · rw [List.mem_singleton.1 h]; rfl)) ?_
      intro w11 hb11 hf11
      refine hK.out _ _ (hF8X.trans hf11 (fun x hx hl => by simp at hx; omega)) (fun hHeld => ?_)
      clear hK K
      simp only [Act.put, List.setIfInBounds_toArray, List.set_cons_zero, List.set_cons_succ]
      refine wpAnyH_done (by kernel_rfl) ?_ _
      refine hK2 _ _ (Met.intro (hJ _ _ ?_))
      repeat apply Exists.intro
      refine ⟨?_, rfl⟩
      exact ⟨gX, z, A8, c8, L, l8, Sr8, rfl, Lib.hid ⟨hz, hb11, own_keep (own_any hO8X (Nat.zero_le _)) hf11 (fun q hq hm => by rw [bk_mem] at hq; simp at hm; exact HXAx.out q hq hm), hLL, HLOx.out, hB8X.keep hf11 (fun q hq hm => by have := HNS1.out q (List.mem_append.2 (.inl hq)); simp at hm; omega) (fun q hq hm => HXSx.out q hq (by simpa using hm)), by simp at hl1; omega, HSr8x.out, HXSx.out, fun q hq => ⟨HAgex.out q hq, HXAx.out q hq, HA8x.out q hq⟩, hXg, hb11.lt, hF8X.trans hf11 (fun x hx hl => by simp at hx; omega)⟩⟩
    refine wp_run (v := ?_) (w' := ?_) ?_ ?_
    rotate_left 2
    · go_simp
      (try (first | with_reducible rfl | (apply And.intro <;> rfl)))
    refine hK.out _ (W0.alloc (Obj.cells ceZ 54)) (hHeld.alloc _) (fun hHeld => ?_)
    clear hK K
    simp only [Act.put, List.setIfInBounds_toArray, List.set_cons_zero, List.set_cons_succ]
    have hX := Blk.new W0 54 ceZ
    have hE' : Fr [] W0 (W0.alloc (Obj.cells ceZ 54)) := (Fr.refl [] W0).alloc _
    have hXl : W0.heap.size < (W0.alloc (Obj.cells ceZ 54)).heap.size := hX.lt
    obtain ⟨gX, hgX⟩ : ∃ gX, gX = W0.heap.size := ⟨_, rfl⟩
    rw [← hgX] at hX hXl ⊢
    have hXg : wb.heap.size ≤ gX := by have := hE.size; omega
    have hE := hE.trans hE' (by simp)
    clear hE'
    generalize W0.alloc (Obj.cells ceZ 54) = W1 at *
    clear hgX
    refine call_at (i := 5) (f := ?_) (args := ?_) rfl (by kernel_rfl) (by rfl) ?_ ?_
    rotate_left 2
    · go_simp
      (try (first | with_reducible rfl | (apply And.intro <;> rfl)))
    refine (cut_any A n cp 5 p W1 (by_keepC HPw.out hE (by simp)) HPN.out.2 HPN.out.1 (by omega)).mono ?_
    rintro e w5 ⟨A5, c5, rfl, hN5⟩
    have hq5 := List.length_take_le 5 p
    generalize p.take 5 = q5 at *
    obtain ⟨m5, hm5⟩ : ∃ m5, m5 = q5.length := ⟨_, rfl⟩
    rw [← hm5] at hN5 hq5 ⊢
    have HM5 := Lib.hid hm5
    clear hm5
    refine ⟨_, rfl, hHeld.trans hN5.2.1 (by simp), fun hHeld => ?_⟩
    simp only [Act.put, List.setIfInBounds_toArray, List.set_cons_zero, List.set_cons_succ]
    have hE5 : Fr [] wb w5 := hE.trans hN5.2.1 (by simp)
    have hX := hX.keep hN5.2.1 (by simp)
    have hXl := Nat.lt_of_lt_of_le hXl hN5.2.1.size
    have hP6 := hN5.by
    have hE6 := hE5
    refine call_at (i := 6) (f := ?_) (args := ?_) rfl (by kernel_rfl) (by rfl) ?_ ?_
    rotate_left 2
    · go_simp
      (try (first | with_reducible rfl | (apply And.intro <;> rfl)))
    refine (bkCommit_any C4 S4 (by omega) ⟨by omega, by omega⟩ A5 m5 c5 q5 w5 hP6 (fun k hk => by have := hN5.lt k hk; omega) (by omega) Sb gb [gr] gr [] (HBBb.out.keep hE6 (by simp) (by simp)) (by simp)).mono ?_
    rintro e w6 ⟨rfl, Sr1, hB6, hF6, hs6⟩
    have HS6 := Lib.hid hs6
    clear hs6
    refine ⟨_, rfl, hHeld.trans hF6 (fun x hx _ => hx), fun hHeld => ?_⟩
    simp only [Act.put, List.setIfInBounds_toArray, List.set_cons_zero, List.set_cons_succ]
    have hX := hX.keep hF6 (fun hm => by have := HNS1.out gX hm; omega)
    have HXS1x : Hid (∀ q ∈ Sr1, q ≠ gX) := Lib.hid (fun q hq e => by subst e; have := HS6.out _ hq hXl; have := HNS1.out _ (List.mem_append.2 (.inr this)); omega)
    have hXl := Nat.lt_of_lt_of_le hXl hF6.size
    have hz : (made C4 S4 hzC q5 []).Ok := made_ok C4 S4 (by omega) ⟨by omega, by omega⟩ hzC q5 (by rw [← HM5.out]; omega) [] (by simp)
    have hl1 := sgn_lenC [] (1000 + C4, (made C4 S4 hzC q5 []).text)
    generalize sgn [] (1000 + C4, (made C4 S4 hzC q5 []).text) = l1 at *
    have hF06 : Fr (Sb ++ [gr]) wb w6 := (hE6.mono (T := Sb ++ [gr]) (by simp)).trans hF6 (fun x hx _ => hx)
    have HSr1x : Hid (∀ q ∈ Sr1, q < wb.heap.size → q = gr) := Lib.hid (fun q hq h => by have := HS6.out q hq (by have := hE6.size; omega); simpa using this)
    unfold Cm.val
    generalize made C4 S4 hzC q5 [] = z at *
    have hF9 := hF06
    have hB9 := hB6
    refine call_at (i := 9) (f := ?_) (args := ?_) rfl (by kernel_rfl) (by rfl) ?_ ?_
    rotate_left 2
    · go_simp
      (try (first | with_reducible rfl | (apply And.intro <;> rfl)))
    have hc9 := bkCert_any Fn (by omega) 3 z hz from_ HFR.out.1 HFR.out.2 w6 T nT cT lT (Lst.keep' HTw.out hF9 (fun hn a ha hm => by have h1 := HTB.out hn a ha; have h2 := HNS1.out a.block hm; omega) (fun _ _ h => h)) HTN.out Sb gb Sr1 gr l1 hB9 (by simp at hl1; omega) (fun hn a ha hm => by
      have h1 := HTB.out hn a ha
      rcases List.mem_append.1 hm with h | h
      · have := HNS1.out a.block (List.mem_append.2 (.inl h)); omega
      · have h2 := HSr1x.out a.block h (by omega)
        have := HNS1.out gr (by simp)
        omega)
    refine hc9.mono ?_
    rintro e w8 ⟨A8, c8, L, l8, Sr8, rfl, hLL, hLO, hO8, hB8, hl8, hF8, hs8, ha8⟩
    have HS8 := Lib.hid hs8
    have HA8x := Lib.hid ha8
    have HLOx := Lib.hid hLO
    clear hs8 ha8 hLO
    have hF98 : Fr (Sb ++ [gr]) wb w8 := hF9.trans hF8 (fun x hx hl => by
      rcases List.mem_append.1 hx with h | h
      · exact List.mem_append.2 (.inl h)
      · rw [HSr1x.out x h hl]; simp)
    refine ⟨_, rfl, hF98, fun hHeld => ?_⟩
    simp only [Act.put, List.setIfInBounds_toArray, List.set_cons_zero, List.set_cons_succ]
    have HSr8x : Hid (∀ q ∈ Sr8, q < wb.heap.size → q = gr) := Lib.hid (fun q hq h => HSr1x.out q (HS8.out q hq (by have := hF9.size; omega)) h)
    have HAgex : Hid (∀ q ∈ bk A8, wb.heap.size ≤ q) := Lib.hid (fun q hq => by have := own_ge hO8 q hq; have := hF9.size; omega)
    have hX := hX.keep hF8 (fun hm => by
      rcases List.mem_append.1 hm with h | h
      · have := HNS1.out gX (List.mem_append.2 (.inl h)); omega
      · exact HXS1x.out gX h rfl)
    have HXSx : Hid (∀ q ∈ Sr8, q ≠ gX) := Lib.hid (fun q hq e => by subst e; exact HXS1x.out _ (HS8.out _ hq hXl) rfl)
    have HXAx : Hid (∀ q ∈ bk A8, q ≠ gX) := Lib.hid (fun q hq e => by subst e; have := own_ge hO8 _ hq; omega)
    have hF8X := hF98
    have hO8X := hO8
    have hB8X := hB8
    refine step_at (i := 11) rfl (by kernel_rfl) (by rfl) (fun K hK => ?_)
    have hvl : (z.cells ++ [Value.slice A8 (2 * Fn + 1) c8]).length = 38 := by simp [Cm.len hz.h]
    refine wp_store_blk 54 _ _ rfl gX (z.cells ++ [Value.slice A8 (2 * Fn + 1) c8]).toArray rfl rfl 54 ceZ hX (by rw [List.size_toArray, hvl]; kernel_rfl) ((show ceZ.size = 38 from rfl).trans (by rw [List.size_toArray, hvl])) (all_oneCell_toArray (fun v hv => by
      rcases List.mem_append.1 hv with h | h
      · exact Cm.one z v h
      · rw [List.mem_singleton.1 h]; rfl)) ?_
    intro w11 hb11 hf11
    refine hK.out _ _ (hF8X.trans hf11 (fun x hx hl => by simp at hx; omega)) (fun hHeld => ?_)
    clear hK K
    simp only [Act.put, List.setIfInBounds_toArray, List.set_cons_zero, List.set_cons_succ]
    refine wpAnyH_done (by kernel_rfl) ?_ _
    refine hK2 _ _ (Met.intro (hJ _ _ ?_))
    repeat apply Exists.intro
    refine ⟨?_, rfl⟩
    exact ⟨gX, z, A8, c8, L, l8, Sr8, rfl, Lib.hid ⟨hz, hb11, own_keep (own_any hO8X (Nat.zero_le _)) hf11 (fun q hq hm => by rw [bk_mem] at hq; simp at hm; exact HXAx.out q hq hm), hLL, HLOx.out, hB8X.keep hf11 (fun q hq hm => by have := HNS1.out q (List.mem_append.2 (.inl hq)); simp at hm; omega) (fun q hq hm => HXSx.out q hq (by simpa using hm)), by simp at hl1; omega, HSr8x.out, HXSx.out, fun q hq => ⟨HAgex.out q hq, HXAx.out q hq, HA8x.out q hq⟩, hXg, hb11.lt, hF8X.trans hf11 (fun x hx hl => by simp at hx; omega)⟩⟩
  case rest =>
  obtain ⟨gX, z, A8, c8, L, l8, Sr8, rfl, HCE⟩ := hcut
  rename World => wx
  rename_i Ka ha
  refine ha _ _ ?_
  clear ha Ka HBBb HPw HNM HP HPN hc0 hc1 hs0 hs1 HC HS
  have HCE1 := HCE.out
  obtain ⟨hzok, hbx, hown, hll, hlo, hbb, hl100, hsr, hsx, haa, hxg, hxl, hfx⟩ := HCE1
  have HZ := Lib.hid hzok
  have HX := Lib.hid hbx
  have HOW := Lib.hid hown
  have HLO := Lib.hid hlo
  have HBB := Lib.hid hbb
  have HSRX := Lib.hid (And.intro hsr hsx)
  have HAA := Lib.hid haa
  have HFX := Lib.hid hfx
  have hnl : L.length = 2 * Fn + 1 := hll
  have HLL := Lib.hid hll
  have hc37 : wx.cell? ⟨gX, 37, none⟩ = some (.slice A8 (2 * Fn + 1) c8) := by
    have h := hbx.range 37 (.slice A8 (2 * Fn + 1) c8) (by rw [List.getElem?_append_right (by rw [Cm.len hzok.h]; omega), Cm.len hzok.h]; rfl)
    simpa using h
  have HC37 := Lib.hid hc37
  have HNCx : Hid (¬ gC ∈ Sb ++ [gr]) := Lib.hid (fun hm => by
    have h1 := HSL.out
    have h2 := HLT.out
    rcases List.mem_append.1 hm with h | h
    · have := h1.1 _ h; omega
    · simp at h; omega)
  have HNKx : Hid (¬ gKb ∈ Sb ++ [gr]) := Lib.hid (fun hm => by
    have h1 := HSL.out
    have h2 := HLT.out
    rcases List.mem_append.1 hm with h | h
    · have := h1.1 _ h; omega
    · simp at h; omega)
  have HCFx := Lib.hid (HCFb.out.keep hfx HNCx.out)
  have HBXx := Lib.hid (HBXb.out.keep hfx HNKx.out)
  have HFWx : Hid (Fr [] w wx) := Lib.hid (HFWb.out.and hfx (fun k hk => by have := HNS1.out k hk; omega))
  have hsize : wb.heap.size ≤ wx.heap.size := hfx.size
  clear HCE hzok hbx hown hll hlo hbb hsr hsx haa hfx hnl
  have hat := within_pos at_ ((2 * Fn + 1 : Nat) : Int) HAT.out.1 HAT.out.2 (by omega) (by omega) wx
  have hwh := within_pos what 10 HW.out.1 HW.out.2 (by decide) (by decide) wx
  obtain ⟨q, hq, hqn⟩ : ∃ q : Nat, at_ % ((2 * Fn + 1 : Nat) : Int) = (q : Int) ∧ q < 2 * Fn + 1 := ⟨(at_ % ((2 * Fn + 1 : Nat) : Int)).toNat, by have := Int.emod_nonneg at_ (show ((2 * Fn + 1 : Nat) : Int) ≠ 0 by omega); omega, by have := Int.emod_lt_of_pos at_ (show (0 : Int) < ((2 * Fn + 1 : Nat) : Int) by omega); omega⟩
  obtain ⟨k, hk, hkn⟩ : ∃ k : Nat, what % 10 = (k : Int) ∧ k < 10 := ⟨(what % 10).toNat, by omega, by omega⟩
  rw [hq] at hat
  rw [hk] at hwh
  have HAT2 := Lib.hid hat
  have HWH := Lib.hid hwh
  obtain ⟨m, hm⟩ : ∃ m : Nat, m = 2 * Fn + 1 := ⟨_, rfl⟩
  rw [← hm] at HX HOW HLL hc37 HC37 HAT2 hqn
  have hm3 : 3 ≤ m ∧ m ≤ 7 := by omega
  clear hat hwh hq hk HAT HW
  have HMM := Lib.hid hm
  clear hm
  go_upto_region 7 with (fail)
  --R7
  go_upto_region 8 with (go_at_call 14; refine HAT2.out.mono ?_; rintro e_ w' ⟨rfl, rfl⟩)
  --R8
  go_upto_block 0 with (go_at_call 14; refine HWH.out.mono ?_; rintro e_ w' ⟨rfl, rfl⟩)
  go_cut [19, 53] (fun _ _ wy => ∃ (k9 : Cm) (A9 : Option Addr) (n9 c9 : Nat) (L9 : List Wst) (l9 : List Ent) (Sr9 : List Nat), Hid (CrX w wy gX Sb gb gr Fn gC gKb k9 A9 n9 c9 L9 l9 Sr9))
  case first =>
    have hk10 : (k : Int) = 0 ∨ (k : Int) = 1 ∨ (k : Int) = 2 ∨ (k : Int) = 3 ∨ (k : Int) = 4 ∨ (k : Int) = 5 ∨ (k : Int) = 6 ∨ (k : Int) = 7 ∨ (k : Int) = 8 ∨ (k : Int) = 9 := by omega
    have HCR : Hid (CrX w wx gX Sb gb gr Fn gC gKb z A8 m c8 L l8 Sr8) := Lib.hid ⟨HZ.out, HX.out, Lst.of_own HOW.out HLL.out (fun v hv => ⟨Wst.len (HLO.out v hv).h, HLO.out v hv⟩), by omega, own_capn HOW.out, HBB.out, HCFx.out, HBXx.out, HFWx.out⟩
    obtain ⟨g8, hA8⟩ : ∃ g8, A8 = some ⟨g8, 0, none⟩ := by
      obtain ⟨g', cap, hv, _⟩ := HOW.out.form (by omega)
      injection hv with h1
      exact ⟨g', h1⟩
    have HC8 := Lib.hid (own_capn HOW.out)
    have HG8 : Hid (wb.heap.size ≤ g8 ∧ g8 ≠ gX ∧ ¬ g8 ∈ Sr8) := Lib.hid (HAA.out g8 (by rw [hA8]; simp [bk]))
    subst hA8
    obtain ⟨R, hR, -⟩ := own_blk HOW.out
    have HR := Lib.hid hR
    obtain ⟨v, hv⟩ : ∃ v, L[q]? = some v := ⟨_, List.getElem?_eq_getElem (by rw [HLL.out]; exact hqn)⟩
    have HV := Lib.hid hv
    have HVO := Lib.hid (HLO.out v (List.mem_of_getElem? hv))
    have hcells : ∀ j x, v.cells[j]? = some x → wx.cell? ⟨g8, q * 38 + j, none⟩ = some x := fun j x hx => by
      have h := flat_at (cells := Wst.cells) (fun v hv => Wst.len (HLO.out v hv).h) hv hx
      rw [hR.cell, List.getElem?_toArray, List.getElem?_append_left (List.getElem?_eq_some_iff.1 h).1]
      exact h
    have hfrz : ∀ j, wx.frozen? ⟨g8, q * 38 + j, none⟩ = false := fun j => hR.frozen _
    have HCELL := Lib.hid hcells
    have HFRZ := Lib.hid hfrz
    clear hR hv hcells hfrz
    have hq0 : (0 : Int) ≤ q := by omega
    have hqm : (q : Int) < m := by omega
    have HDJ : Hid (¬ g8 ∈ Sb ∧ g8 ≠ gC ∧ g8 ≠ gKb ∧ w.heap.size ≤ g8) := Lib.hid (by
      have h1 := HG8.out.1
      have h2 := HLT.out
      exact ⟨fun hm => by have := HNS1.out g8 (List.mem_append.2 (.inl hm)); omega, by omega, by omega, by omega⟩)
    have HDX : Hid (¬ gX ∈ Sb ∧ gX ≠ gC ∧ gX ≠ gKb ∧ w.heap.size ≤ gX ∧ ¬ gX ∈ Sr8) := Lib.hid (by
      have h2 := HLT.out
      exact ⟨fun hm => by have := HNS1.out gX (List.mem_append.2 (.inl hm)); omega, by omega, by omega, by omega, fun hm => HSRX.out.2 gX hm rfl⟩)
    have HMV : Hid (∀ wy L', Fr [g8] wx wy → Lst 38 Wst.cells (fun _ v => v.Ok) wy (some ⟨g8, 0, none⟩) m L' → CrX w wy gX Sb gb gr Fn gC gKb z (some ⟨g8, 0, none⟩) m c8 L' l8 Sr8) := Lib.hid (fun wy L' hf hl => ⟨HZ.out, HX.out.keep hf (by simp; exact fun e => HG8.out.2.1 e.symm), hl, HCR.out.fn, HC8.out, HBB.out.keep hf (fun k hk hm => by simp at hm; subst hm; exact HDJ.out.1 hk) (fun k hk hm => by simp at hm; subst hm; exact HG8.out.2.2 hk), HCFx.out.keep hf (by simp; exact fun e => HDJ.out.2.1 e.symm), HBXx.out.keep hf (by simp; exact fun e => HDJ.out.2.2.1 e.symm), HFWx.out.and hf (by have := HDJ.out.2.2.2; simpa using this)⟩)
    have HONE : Hid (∀ (j : Nat) (u : Value) (v' : Wst), j < 38 → v'.cells = v.cells.set j u → v'.Ok → CrX w (wx.setCell ⟨g8, q * 38 + j, none⟩ u) gX Sb gb gr Fn gC gKb z (some ⟨g8, 0, none⟩) m c8 (L.set q v') l8 Sr8) := Lib.hid (fun j u v' hj hc hok => HMV.out _ _ ((Fr.refl _ wx).setCell _ (fun _ => by simp) _) (lst_oneC HR.out HLL.out HLO.out HV.out hj hc hok))
    have HZL : Hid (z.cells.length = 37) := Lib.hid (Cm.len HZ.out.h)
    have HXR : Hid (wx.rangeAt gX 0 z.cells) := Lib.hid (fun j u hu => by
      have h := HX.out.range j u (by rw [List.getElem?_append_left (List.getElem?_eq_some_iff.1 hu).1]; exact hu)
      exact h)
    have HVR : Hid (wx.cell? ⟨g8, q * 38, none⟩ = some (.int .i64 v.r)) := Lib.hid (by
      have h := (Wst.at_of (x := v) (g := g8) (o := q * 38) (fun j x hx => HCELL.out j x hx) HVO.out.h).r
      simpa using h)
    have HNS : Hid (¬ gX ∈ Sb ++ Sr8) := Lib.hid (fun hm => by
      rcases List.mem_append.1 hm with h | h
      · exact HDX.out.1 h
      · exact HDX.out.2.2.2.2 h)
    have HNW : Hid (¬ g8 ∈ Sb ++ Sr8) := Lib.hid (fun hm => by
      rcases List.mem_append.1 hm with h | h
      · exact HDJ.out.1 h
      · exact HG8.out.2.2 h)
    have HSRW : Hid (∀ k ∈ Sb ++ Sr8, w.heap.size ≤ k ∧ k ≠ gC ∧ k ≠ gKb) := Lib.hid (fun k hk => by
      have h1 := HSL.out
      have h2 := HLT.out
      rcases List.mem_append.1 hk with h | h
      · have := h1.1 k h; omega
      · by_cases hkb : k < wb.heap.size
        · have := HSRX.out.1 k h hkb; omega
        · omega)
    have HNK : Hid (¬ gKb ∈ Sb ++ Sr8) := Lib.hid (fun hm => (HSRW.out _ hm).2.2 rfl)
    have HNCC : Hid (¬ gC ∈ Sb ++ Sr8) := Lib.hid (fun hm => (HSRW.out _ hm).2.1 rfl)
    have HWG : Hid (∀ k ∈ Sb ++ Sr8, w.heap.size ≤ k) := Lib.hid (fun k hk => (HSRW.out k hk).1)
    have HVL : Hid (v.cells.length = 38) := Lib.hid (Wst.len HVO.out.h)
    have HVRG : Hid (wx.rangeAt g8 (q * 38) v.cells) := Lib.hid (fun j u hu => HCELL.out j u hu)
    have HCR8 : Hid (g8 < wx.heap.size) := Lib.hid (own_lt HOW.out g8 rfl)
    rcases hk10 with e | e | e | e | e | e | e | e | e | e <;> rw [e] <;> clear e
    · as_aux_lemma =>
      go_wp2_with fail
      go_meet
      exact ⟨z, some ⟨g8, 0, none⟩, m, c8, L, l8, Sr8, HCR⟩
    · as_aux_lemma =>
      have hce := (Wst.at_of (x := v) (g := g8) (o := q * 38) (fun j x hx => HCELL.out j x hx) HVO.out.h).t
      have hz := HFRZ.out 35
      go_wp2_with fail
      go_meet
      obtain ⟨t', ht', htl⟩ := wrap_u64_nat ((v.t : Int) + 1)
      rw [ht']
      exact ⟨z, some ⟨g8, 0, none⟩, m, c8, _, l8, Sr8, Lib.hid (HONE.out 35 _ ⟨v.r, v.c, v.s, v.h, t', v.b, v.m⟩ (by omega) (cells_tC v HVO.out.h t') ⟨HVO.out.r, HVO.out.c, HVO.out.s, HVO.out.h, htl, HVO.out.b, HVO.out.m⟩)⟩
    · as_aux_lemma =>
      have hce := (Wst.at_of (x := v) (g := g8) (o := q * 38) (fun j x hx => HCELL.out j x hx) HVO.out.h).r
      have hz := HFRZ.out 0
      simp only [Nat.add_zero] at hce hz
      go_wp2_with fail
      go_meet
      exact ⟨z, some ⟨g8, 0, none⟩, m, c8, _, l8, Sr8, Lib.hid (HONE.out 0 _ ⟨_, v.c, v.s, v.h, v.t, v.b, v.m⟩ (by omega) (cells_rC v _) ⟨wrap_i64_in _, HVO.out.c, HVO.out.s, HVO.out.h, HVO.out.t, HVO.out.b, HVO.out.m⟩)⟩
    · as_aux_lemma =>
      have hce := (Wst.at_of (x := v) (g := g8) (o := q * 38) (fun j x hx => HCELL.out j x hx) HVO.out.h).m
      have hz := HFRZ.out 37
      go_wp2_with fail
      go_meet
      exact ⟨z, some ⟨g8, 0, none⟩, m, c8, _, l8, Sr8, Lib.hid (HONE.out 37 _ ⟨v.r, v.c, v.s, v.h, v.t, v.b, _⟩ (by omega) (cells_mC v HVO.out.h _) ⟨HVO.out.r, HVO.out.c, HVO.out.s, HVO.out.h, HVO.out.t, HVO.out.b, wrap_i64_in _⟩)⟩
    · as_aux_lemma =>
      have hz := HX.out.frozen 37
      have hm1 : (1 : Int) ≤ m := by omega
      have hmc : (m : Int) ≤ c8 := by have := HC8.out; omega
      go_wp2_with fail
      go_meet
      have hzl : z.cells.length = 37 := Cm.len HZ.out.h
      have hb7 := HX.out.set 37 (.slice (some ⟨g8, 38, none⟩) (m - 1) (c8 - 1))
      rw [set_last z.cells hzl _ _] at hb7
      have hf : Fr [gX] wx (wx.setCell ⟨gX, 37, none⟩ (.slice (some ⟨g8, 38, none⟩) (m - 1) (c8 - 1))) := (Fr.refl _ wx).setCell _ (fun _ => by simp) _
      refine ⟨z, some ⟨g8, 38, none⟩, m - 1, c8 - 1, L.drop 1, l8, Sr8, Lib.hid ⟨HZ.out, hb7, (lst_tailC HCR.out.fl (by omega)).keep hf (fun a ha hm => by injection ha with ha; subst ha; simp at hm; exact HG8.out.2.1 hm) (fun _ _ h => h), by omega, by omega, HBB.out.keep hf (fun k hk hm => by simp at hm; subst hm; exact HDX.out.1 hk) (fun k hk hm => by simp at hm; subst hm; exact HDX.out.2.2.2.2 hk), HCFx.out.keep hf (by simp; exact fun e => HDX.out.2.1 e.symm), HBXx.out.keep hf (by simp; exact fun e => HDX.out.2.2.1 e.symm), HFWx.out.and hf (by have := HDX.out.2.2.2.1; simpa using this)⟩⟩
    · as_aux_lemma =>
      have hmS : (m : Int) ≤ 7 := by omega
      go_upto_region 18 with (fail)
      refine wp_region_till 8 (Fr [g8, gX] wx) (Fr [] wx) (by kernel_rfl) (Fr.drew (Fr.refl _ wx)) (Fr.drew (Fr.refl _ wx)) (fun hA hB => ?_)
      have HWD : Hid (Fr [] wx wx.drew) := Lib.hid (Fr.drew (Fr.refl [] wx))
      generalize wx.drew = wd at *
      refine till_run (i := 0) (v := ?_) rfl (by kernel_rfl) (by rfl) (fun _ _ _ h => h) hA hB (fun w1 hw1 => ?_) ?_
      rotate_left 1
      · skip
        go_simp
        (try (first | with_reducible rfl | (apply And.intro <;> rfl)))
      simp only [Act.put, List.setIfInBounds_toArray, List.set_cons_zero, List.set_cons_succ]
      refine till_run (i := 1) (v := ?_) rfl (by kernel_rfl) (by rfl) (fun _ _ _ h => h) hA hB (fun w1 hw1 => ?_) ?_
      rotate_left 1
      · skip
        have hcw0 := hw1.cell (HC37.out) (by first | (simp; done) | exact HNS.out | exact HNW.out | (intro hm; have hlt := HSB.out _ hm; (try dsimp only at hlt); omega))
        go_simp
        (try (first | with_reducible rfl | (apply And.intro <;> rfl)))
      simp only [Act.put, List.setIfInBounds_toArray, List.set_cons_zero, List.set_cons_succ]
      refine till_run (i := 2) (v := ?_) rfl (by kernel_rfl) (by rfl) (fun _ _ _ h => h) hA hB (fun w1 hw1 => ?_) ?_
      rotate_left 1
      · skip
        go_simp
        (try (first | with_reducible rfl | (apply And.intro <;> rfl)))
      simp only [Act.put, List.setIfInBounds_toArray, List.set_cons_zero, List.set_cons_succ]
      refine till_run (i := 3) (v := ?_) rfl (by kernel_rfl) (by rfl) (fun _ _ _ h => h) hA hB (fun w1 hw1 => ?_) ?_
      rotate_left 1
      · skip
        have hcw0 := hw1.cell (HC37.out) (by first | (simp; done) | exact HNS.out | exact HNW.out | (intro hm; have hlt := HSB.out _ hm; (try dsimp only at hlt); omega))
        go_simp
        (try (first | with_reducible rfl | (apply And.intro <;> rfl)))
      simp only [Act.put, List.setIfInBounds_toArray, List.set_cons_zero, List.set_cons_succ]
      refine till_run (i := 4) (v := ?_) rfl (by kernel_rfl) (by rfl) (fun _ _ _ h => h) hA hB (fun w1 hw1 => ?_) ?_
      rotate_left 1
      · skip
        go_simp
        (try (first | with_reducible rfl | (apply And.intro <;> rfl)))
      simp only [Act.put, List.setIfInBounds_toArray, List.set_cons_zero, List.set_cons_succ]
      refine till_run (i := 5) (v := ?_) rfl (by kernel_rfl) (by rfl) (fun _ _ _ h => h) hA hB (fun w1 hw1 => ?_) ?_
      rotate_left 1
      · skip
        go_simp
        (try (first | with_reducible rfl | (apply And.intro <;> rfl)))
      simp only [Act.put, List.setIfInBounds_toArray, List.set_cons_zero, List.set_cons_succ]
      refine till_row (i := 6) rfl (by kernel_rfl) (by rfl) _ _ rfl _ _ rfl _ (fun w1 hw1 => hw1.range HVRG.out (by simp)) (row_stamp.of HVL.out) (fun _ _ _ h => h) hA hB ?_
      simp only [Act.put, List.setIfInBounds_toArray, List.set_cons_zero, List.set_cons_succ]
      refine till_stepC (i := 7) rfl (by kernel_rfl) (by rfl) (fun K hK => ?_)
      refine wp_build_one 49 51 _ rfl Try.underlying49 v.cells 80 (by rw [HVL.out]; exact el_stamp) rfl (by rw [HVL.out]; decide) (by rw [HVL.out]; decide) ?_
      refine hK.out _ _ (hA.alloc _) (hB.alloc _) (fun hA hB => ?_)
      clear hK K
      simp only [Act.put, List.setIfInBounds_toArray, List.set_cons_zero, List.set_cons_succ]
      have HOD := Lib.hid (own_keep HOW.out HWD.out (by simp))
      have HXD := Lib.hid (HX.out.keep HWD.out (by simp))
      have hwd := HWD.out.size
      refine till_step (i := 8) rfl (by kernel_rfl) (by kernel_rfl) (by rfl) (fun K hK => ?_)
      refine wp_append_onec _ _ 49 51 rfl Try.underlying49 38 80 el_stamp (by decide) 0 (.slice (some ⟨g8, 0, none⟩) m c8) m _ v.cells rfl (HOD.out.alloc _) (Nat.zero_le _) HVL.out (Wst.one v) wd.heap.size 51 rfl (Blk.new _ _ _) (by omega) (by decide) ?_
      intro A9 c9 w9 ho9 hf9 hb9
      rw [bk_own] at hf9
      have HF9 : Hid (Fr [g8] wx w9) := Lib.hid (((HWD.out.mono (T := [g8]) (by simp)).trans ((Fr.refl [] wd).alloc _) (by simp)).trans hf9 (fun x hx _ => by simpa [bk] using hx))
      have HA9 : Hid (∀ k ∈ bk A9, k ≠ gX) := Lib.hid (by
        intro k hk e
        subst e
        rw [← bk_own A9 (m + 1) c9] at hk
        rcases hb9 with h | h
        · rw [h, bk_own] at hk; simp [bk] at hk; exact HG8.out.2.1 hk.symm
        · rw [h] at hk; simp at hk; have := HX.out.lt; omega)
      have HO9 := Lib.hid ho9
      refine hK.out _ _ (hA.trans hf9 (fun x hx _ => by simp [bk] at hx; simp [hx])) (fun hA => ?_)
      clear hK K ho9 hf9 hb9
      have HX9 := Lib.hid (HX.out.keep HF9.out (by simp; exact fun e => HG8.out.2.1 e.symm))
      simp only [Act.put, List.setIfInBounds_toArray, List.set_cons_zero, List.set_cons_succ]
      refine till_step (i := 9) rfl (by kernel_rfl) (by kernel_rfl) (by rfl) (fun K hK => ?_)
      refine wp_run (v := ?_) (w' := ?_) ?_ ?_
      rotate_left 2
      · go_simp
        (try (first | with_reducible rfl | (apply And.intro <;> rfl)))
      refine hK.out _ _ hA (fun hA => ?_)
      clear hK K
      simp only [Act.put, List.setIfInBounds_toArray, List.set_cons_zero, List.set_cons_succ]
      refine till_step (i := 10) rfl (by kernel_rfl) (by kernel_rfl) (by rfl) (fun K hK => ?_)
      refine wp_store_cell1 49 _ _ rfl gX 37 (.slice A9 (m + 1) c9) rfl rfl rfl 54 _ HX9.out (by simp [HZL.out]) (by kernel_rfl) ?_
      have hb7 := HX9.out.set 37 (.slice A9 (m + 1) c9)
      rw [set_last z.cells HZL.out _ _] at hb7
      have HB7 := Lib.hid hb7
      have hf7 : Fr [gX] w9 (w9.setCell ⟨gX, 37, none⟩ (.slice A9 (m + 1) c9)) := (Fr.refl [gX] w9).setCell _ (fun _ => by simp) _
      have HF7 := Lib.hid hf7
      refine hK.out _ _ (hA.trans HF7.out (fun k hk _ => by simp at hk; simp [hk])) (fun hA => ?_)
      clear hK K hb7 hf7
      generalize w9.setCell ⟨gX, 37, none⟩ (.slice A9 (m + 1) c9) = w10 at *
      simp only [Act.put, List.setIfInBounds_toArray, List.set_cons_zero, List.set_cons_succ]
      refine till_done (by kernel_rfl) ?_ _
      clear hA hB
      go_wp2_with fail
      go_meet
      have hcat : (L ++ [v]).flatMap Wst.cells = L.flatMap Wst.cells ++ v.cells := by rw [List.flatMap_append, List.flatMap_singleton]
      have ho10 := own_keep HO9.out HF7.out (fun k hk hm => by rw [bk_mem] at hk; simp at hm; exact HA9.out k hk hm)
      rw [← hcat] at ho10
      exact ⟨z, A9, m + 1, c9, L ++ [v], l8, Sr8, Lib.hid ⟨HZ.out, HB7.out, Lst.of_own ho10 (by rw [List.length_append, HLL.out]; rfl) (fun u hu => by
          rcases List.mem_append.1 hu with h | h
          · exact ⟨Wst.len (HLO.out u h).h, HLO.out u h⟩
          · rw [List.mem_singleton.1 h]; exact ⟨HVL.out, HVO.out⟩), by omega, own_capn ho10,
          (HBB.out.keep HF9.out (fun k hk hm => by simp at hm; subst hm; exact HDJ.out.1 hk) (fun k hk hm => by simp at hm; subst hm; exact HG8.out.2.2 hk)).keep HF7.out (fun k hk hm => by simp at hm; subst hm; exact HDX.out.1 hk) (fun k hk hm => by simp at hm; subst hm; exact HDX.out.2.2.2.2 hk),
          (HCFx.out.keep HF9.out (by simp; exact fun e => HDJ.out.2.1 e.symm)).keep HF7.out (by simp; exact fun e => HDX.out.2.1 e.symm), (HBXx.out.keep HF9.out (by simp; exact fun e => HDJ.out.2.2.1 e.symm)).keep HF7.out (by simp; exact fun e => HDX.out.2.2.1 e.symm),
          (HFWx.out.and HF9.out (by have := HDJ.out.2.2.2; simpa using this)).and HF7.out (by have := HDX.out.2.2.2.1; simpa using this)⟩⟩
    · as_aux_lemma =>
      have hat := Cm.at_of HXR.out HZ.out.h
      obtain ⟨h3, hh3⟩ : ∃ h3, z.h[3]? = some h3 := ⟨_, List.getElem?_eq_getElem (by rw [HZ.out.h]; omega)⟩
      have hce : wx.cell? ⟨gX, 5, none⟩ = some (.int .u8 (h3.toNat : Int)) := by
        have h := hat.hash 3 (by8 h3) (by simp [hh3])
        simpa [by8] using h
      have hz := HX.out.frozen 5
      obtain ⟨d, hd, -⟩ := xor1C h3
      have HD := Lib.hid hd
      clear hat hh3 hd
      go_wp2_with fail
      go_meet
      rw [HD.out]
      have hb7 := HX.out.set 5 (by8 d)
      rw [cells_hC z HZ.out.h d _] at hb7
      have hf : Fr [gX] wx (wx.setCell ⟨gX, 5, none⟩ (by8 d)) := (Fr.refl _ wx).setCell _ (fun _ => by simp) _
      exact ⟨⟨z.c, z.s, z.h.set 3 d, z.n, z.b, z.m⟩, some ⟨g8, 0, none⟩, m, c8, L, l8, Sr8, Lib.hid ⟨⟨HZ.out.c, HZ.out.s, by show (z.h.set 3 d).length = 32; rw [List.length_set]; exact HZ.out.h, HZ.out.n, HZ.out.b, HZ.out.m⟩, hb7, HCR.out.fl.keep hf (fun a ha hm => by injection ha with ha; subst ha; simp at hm; exact HG8.out.2.1 hm) (fun _ _ h => h), HCR.out.fn, HC8.out, HBB.out.keep hf (fun k hk hm => by simp at hm; subst hm; exact HDX.out.1 hk) (fun k hk hm => by simp at hm; subst hm; exact HDX.out.2.2.2.2 hk), HCFx.out.keep hf (by simp; exact fun e => HDX.out.2.1 e.symm), HBXx.out.keep hf (by simp; exact fun e => HDX.out.2.2.1 e.symm), HFWx.out.and hf (by have := HDX.out.2.2.2.1; simpa using this)⟩⟩
    · as_aux_lemma =>
      have hwq : IntKind.i64.wrap ((q : Int) + 1) = (q : Int) + 1 := IntWalk.i64_in _ (by omega)
      have hat2 := within_pos ((q : Int) + 1) (m : Int) (by omega) (by omega) (by omega) (by omega) wx
      obtain ⟨k2, hk2, hk2m⟩ : ∃ k2 : Nat, ((q : Int) + 1) % (m : Int) = (k2 : Int) ∧ k2 < m := ⟨(((q : Int) + 1) % (m : Int)).toNat, by have := Int.emod_nonneg ((q : Int) + 1) (show (m : Int) ≠ 0 by omega); omega, by have := Int.emod_lt_of_pos ((q : Int) + 1) (show (0 : Int) < (m : Int) by omega); omega⟩
      rw [hk2] at hat2
      have HATK := Lib.hid hat2
      clear hat2 hk2
      obtain ⟨v2, hv2⟩ : ∃ v2, L[k2]? = some v2 := ⟨_, List.getElem?_eq_getElem (by rw [HLL.out]; exact hk2m)⟩
      have HV2O := Lib.hid (HLO.out v2 (List.mem_of_getElem? hv2))
      have HV2L : Hid (v2.cells.length = 38) := Lib.hid (Wst.len HV2O.out.h)
      have HLEN : Hid (∀ u ∈ L, (Wst.cells u).length = 38) := Lib.hid (fun u hu => Wst.len (HLO.out u hu).h)
      have HV2R : Hid (wx.rangeAt g8 (k2 * 38) v2.cells) := Lib.hid (fun j x hx => by
        have h := flat_at (cells := Wst.cells) HLEN.out hv2 hx
        rw [HR.out.cell, List.getElem?_toArray, List.getElem?_append_left (List.getElem?_eq_some_iff.1 h).1]
        exact h)
      clear hv2
      have hk20 : (0 : Int) ≤ k2 := by omega
      have hk2i : (k2 : Int) < m := by omega
      go_upto_region 23 with (go_at_call 14; refine HATK.out.mono ?_; rintro e_ w' ⟨rfl, rfl⟩)
      clear hwq
      refine wp_region_till 17 (Fr [g8] wx) (Fr [] wx) (by kernel_rfl) (Fr.drew (Fr.refl _ wx)) (Fr.drew (Fr.refl _ wx)) (fun hA hB => ?_)
      have HWD : Hid (Fr [] wx wx.drew) := Lib.hid (Fr.drew (Fr.refl [] wx))
      generalize wx.drew = wd at *
      refine till_run (i := 0) (v := ?_) rfl (by kernel_rfl) (by rfl) (fun _ _ _ h => h) hA hB (fun w1 hw1 => ?_) ?_
      rotate_left 1
      · skip
        go_simp
        (try (first | with_reducible rfl | (apply And.intro <;> rfl)))
      simp only [Act.put, List.setIfInBounds_toArray, List.set_cons_zero, List.set_cons_succ]
      refine till_run (i := 1) (v := ?_) rfl (by kernel_rfl) (by rfl) (fun _ _ _ h => h) hA hB (fun w1 hw1 => ?_) ?_
      rotate_left 1
      · skip
        have hcw0 := hw1.cell (HC37.out) (by first | (simp; done) | exact HNS.out | exact HNW.out | (intro hm; have hlt := HSB.out _ hm; (try dsimp only at hlt); omega))
        go_simp
        (try (first | with_reducible rfl | (apply And.intro <;> rfl)))
      simp only [Act.put, List.setIfInBounds_toArray, List.set_cons_zero, List.set_cons_succ]
      refine till_run (i := 2) (v := ?_) rfl (by kernel_rfl) (by rfl) (fun _ _ _ h => h) hA hB (fun w1 hw1 => ?_) ?_
      rotate_left 1
      · skip
        go_simp
        (try (first | with_reducible rfl | (apply And.intro <;> rfl)))
      simp only [Act.put, List.setIfInBounds_toArray, List.set_cons_zero, List.set_cons_succ]
      refine till_freeAt (i := 3) (v := ?_) rfl (by kernel_rfl) (by decide) (by rfl) (fun _ _ _ h => h) hA (fun _ => hB) (fun w1 hw1 => ?_) ?_
      rotate_left 1
      · skip
        go_simp
        (try (first | with_reducible rfl | (apply And.intro <;> rfl)))
      simp only [Act.put, List.setIfInBounds_toArray, List.set_cons_zero, List.set_cons_succ]
      refine till_freeAt (i := 4) (v := ?_) rfl (by kernel_rfl) (by decide) (by rfl) (fun _ _ _ h => h) hA (fun _ => hB) (fun w1 hw1 => ?_) ?_
      rotate_left 1
      · skip
        have hcw0 := hw1.cell HC37.out (by simp; exact fun e => HG8.out.2.1 e.symm)
        go_simp
        (try (first | with_reducible rfl | (apply And.intro <;> rfl)))
      simp only [Act.put, List.setIfInBounds_toArray, List.set_cons_zero, List.set_cons_succ]
      refine till_freeAt (i := 5) (v := ?_) rfl (by kernel_rfl) (by decide) (by rfl) (fun _ _ _ h => h) hA (fun _ => hB) (fun w1 hw1 => ?_) ?_
      rotate_left 1
      · skip
        go_simp
        (try (first | with_reducible rfl | (apply And.intro <;> rfl)))
      simp only [Act.put, List.setIfInBounds_toArray, List.set_cons_zero, List.set_cons_succ]
      refine till_run (i := 6) (v := ?_) rfl (by kernel_rfl) (by rfl) (fun _ _ _ h => h) hA hB (fun w1 hw1 => ?_) ?_
      rotate_left 1
      · skip
        go_simp
        (try (first | with_reducible rfl | (apply And.intro <;> rfl)))
      simp only [Act.put, List.setIfInBounds_toArray, List.set_cons_zero, List.set_cons_succ]
      refine till_run (i := 7) (v := ?_) rfl (by kernel_rfl) (by rfl) (fun _ _ _ h => h) hA hB (fun w1 hw1 => ?_) ?_
      rotate_left 1
      · skip
        have hcw0 := hw1.cell (HC37.out) (by first | (simp; done) | exact HNS.out | exact HNW.out | (intro hm; have hlt := HSB.out _ hm; (try dsimp only at hlt); omega))
        go_simp
        (try (first | with_reducible rfl | (apply And.intro <;> rfl)))
      simp only [Act.put, List.setIfInBounds_toArray, List.set_cons_zero, List.set_cons_succ]
      refine till_run (i := 8) (v := ?_) rfl (by kernel_rfl) (by rfl) (fun _ _ _ h => h) hA hB (fun w1 hw1 => ?_) ?_
      rotate_left 1
      · skip
        go_simp
        (try (first | with_reducible rfl | (apply And.intro <;> rfl)))
      simp only [Act.put, List.setIfInBounds_toArray, List.set_cons_zero, List.set_cons_succ]
      refine till_run (i := 9) (v := ?_) rfl (by kernel_rfl) (by rfl) (fun _ _ _ h => h) hA hB (fun w1 hw1 => ?_) ?_
      rotate_left 1
      · skip
        go_simp
        (try (first | with_reducible rfl | (apply And.intro <;> rfl)))
      simp only [Act.put, List.setIfInBounds_toArray, List.set_cons_zero, List.set_cons_succ]
      refine till_row (i := 10) rfl (by kernel_rfl) (by rfl) _ _ rfl _ _ rfl _ (fun w1 hw1 => hw1.range HV2R.out (by simp)) (row_stamp.of HV2L.out) (fun _ _ _ h => h) hA hB ?_
      simp only [Act.put, List.setIfInBounds_toArray, List.set_cons_zero, List.set_cons_succ]
      refine till_run (i := 11) (v := ?_) rfl (by kernel_rfl) (by rfl) (fun _ _ _ h => h) hA hB (fun w1 hw1 => ?_) ?_
      rotate_left 1
      · skip
        go_simp
        (try (first | with_reducible rfl | (apply And.intro <;> rfl)))
      simp only [Act.put, List.setIfInBounds_toArray, List.set_cons_zero, List.set_cons_succ]
      refine till_run (i := 12) (v := ?_) rfl (by kernel_rfl) (by rfl) (fun _ _ _ h => h) hA hB (fun w1 hw1 => ?_) ?_
      rotate_left 1
      · skip
        have hcw0 := hw1.cell (HC37.out) (by first | (simp; done) | exact HNS.out | exact HNW.out | (intro hm; have hlt := HSB.out _ hm; (try dsimp only at hlt); omega))
        go_simp
        (try (first | with_reducible rfl | (apply And.intro <;> rfl)))
      simp only [Act.put, List.setIfInBounds_toArray, List.set_cons_zero, List.set_cons_succ]
      refine till_run (i := 13) (v := ?_) rfl (by kernel_rfl) (by rfl) (fun _ _ _ h => h) hA hB (fun w1 hw1 => ?_) ?_
      rotate_left 1
      · skip
        go_simp
        (try (first | with_reducible rfl | (apply And.intro <;> rfl)))
      simp only [Act.put, List.setIfInBounds_toArray, List.set_cons_zero, List.set_cons_succ]
      refine till_run (i := 14) (v := ?_) rfl (by kernel_rfl) (by rfl) (fun _ _ _ h => h) hA hB (fun w1 hw1 => ?_) ?_
      rotate_left 1
      · skip
        go_simp
        (try (first | with_reducible rfl | (apply And.intro <;> rfl)))
      simp only [Act.put, List.setIfInBounds_toArray, List.set_cons_zero, List.set_cons_succ]
      refine till_row (i := 15) rfl (by kernel_rfl) (by rfl) _ _ rfl _ _ rfl _ (fun w1 hw1 => hw1.range HVRG.out (by simp)) (row_stamp.of HVL.out) (fun _ _ _ h => h) hA hB ?_
      simp only [Act.put, List.setIfInBounds_toArray, List.set_cons_zero, List.set_cons_succ]
      refine till_run (i := 16) (v := ?_) rfl (by kernel_rfl) (by rfl) (fun _ _ _ h => h) hA hB (fun w1 hw1 => ?_) ?_
      rotate_left 1
      · skip
        go_simp
        (try (first | with_reducible rfl | (apply And.intro <;> rfl)))
      simp only [Act.put, List.setIfInBounds_toArray, List.set_cons_zero, List.set_cons_succ]
      have HOD := Lib.hid (own_keep HOW.out HWD.out (by simp))
      have HPUT := Lib.hid (own_put (cells := Wst.cells) HOD.out HLEN.out (i := q) (by rw [HLL.out]; exact hqn) v2 HV2L.out)
      have HLEN2 : Hid (∀ u ∈ L.set q v2, (Wst.cells u).length = 38 ∧ u.Ok) := Lib.hid (fun u hu => by
        rcases List.mem_or_eq_of_mem_set hu with h | h
        · exact ⟨HLEN.out u h, HLO.out u h⟩
        · rw [h]; exact ⟨HV2L.out, HV2O.out⟩)
      have HPUT2 := Lib.hid (own_put (cells := Wst.cells) HPUT.out.1 (fun u hu => (HLEN2.out u hu).1) (i := k2) (by rw [List.length_set, HLL.out]; exact hk2m) v HVL.out)
      have HNSZ2 : Hid ((Try.prog.info? 51).map (·.size) = some v2.cells.toArray.size) := Lib.hid (by rw [List.size_toArray, HV2L.out]; kernel_rfl)
      have HNSZ : Hid ((Try.prog.info? 51).map (·.size) = some v.cells.toArray.size) := Lib.hid (by rw [List.size_toArray, HVL.out]; kernel_rfl)
      have HT2 : Hid (wd.there g8 (q * 38) v2.cells.toArray.size) := Lib.hid (by rw [List.size_toArray, HV2L.out]; exact HPUT.out.2)
      have HT1 : Hid ((wd.setCells g8 (q * 38) v2.cells).there g8 (k2 * 38) v.cells.toArray.size) := Lib.hid (by rw [List.size_toArray, HVL.out]; exact HPUT2.out.2)
      refine till_step (i := 17) rfl (by kernel_rfl) (by kernel_rfl) (by rfl) (fun K hK => ?_)
      refine wp_store_mid 51 _ _ rfl g8 (q * 38) v2.cells.toArray rfl rfl HT2.out HNSZ2.out (all_oneCell_toArray (Wst.one v2)) ?_
      rw [show v2.cells.toArray.toList = v2.cells from rfl]
      have HFS : Hid (Fr [g8] wd (wd.setCells g8 (q * 38) v2.cells)) := Lib.hid (Fr.setCells (fun _ => by simp) _ _ _ (Fr.refl _ _))
      refine hK.out _ _ (hA.trans HFS.out (fun x hx _ => hx)) (fun hA => ?_)
      clear hK K
      simp only [Act.put, List.setIfInBounds_toArray, List.set_cons_zero, List.set_cons_succ]
      refine till_step (i := 18) rfl (by kernel_rfl) (by kernel_rfl) (by rfl) (fun K hK => ?_)
      refine wp_run (v := ?_) (w' := ?_) ?_ ?_
      rotate_left 2
      · go_simp
        (try (first | with_reducible rfl | (apply And.intro <;> rfl)))
      refine hK.out _ _ hA (fun hA => ?_)
      clear hK K
      simp only [Act.put, List.setIfInBounds_toArray, List.set_cons_zero, List.set_cons_succ]
      refine till_step (i := 19) rfl (by kernel_rfl) (by kernel_rfl) (by rfl) (fun K hK => ?_)
      refine wp_store_mid 51 _ _ rfl g8 (k2 * 38) v.cells.toArray rfl rfl HT1.out HNSZ.out (all_oneCell_toArray (Wst.one v)) ?_
      rw [show v.cells.toArray.toList = v.cells from rfl]
      have HFS2 : Hid (Fr [g8] (wd.setCells g8 (q * 38) v2.cells) ((wd.setCells g8 (q * 38) v2.cells).setCells g8 (k2 * 38) v.cells)) := Lib.hid (Fr.setCells (fun _ => by simp) _ _ _ (Fr.refl _ _))
      have HO2 := Lib.hid HPUT2.out.1
      have HFA : Hid (Fr [g8] wx ((wd.setCells g8 (q * 38) v2.cells).setCells g8 (k2 * 38) v.cells)) := Lib.hid (((HWD.out.mono (T := [g8]) (by simp)).trans HFS.out (fun x hx _ => hx)).trans HFS2.out (fun x hx _ => hx))
      generalize (wd.setCells g8 (q * 38) v2.cells).setCells g8 (k2 * 38) v.cells = w10 at *
      refine hK.out _ _ HFA.out (fun hA => ?_)
      clear hK K
      simp only [Act.put, List.setIfInBounds_toArray, List.set_cons_zero, List.set_cons_succ]
      refine till_done (by kernel_rfl) ?_ _
      clear hA hB
      go_wp2_with fail
      go_meet
      exact ⟨z, some ⟨g8, 0, none⟩, m, c8, _, l8, Sr8, Lib.hid (HMV.out w10 _ HFA.out (Lst.of_own HO2.out (by rw [List.length_set, List.length_set]; exact HLL.out) (fun u hu => by
          rcases List.mem_or_eq_of_mem_set hu with h | h
          · exact HLEN2.out u h
          · rw [h]; exact ⟨HVL.out, HVO.out⟩)))⟩
    · as_aux_lemma =>
      have hz := HX.out.frozen 37
      clear hz
      go_upto_region 25 with (fail)
      refine wp_region_till 14 (Fr (g8 :: (Sb ++ Sr8)) wx) (Fr (Sb ++ Sr8) wx) (by kernel_rfl) (Fr.drew (Fr.refl _ wx)) (Fr.drew (Fr.refl _ wx)) (fun hA hB => ?_)
      have HWD : Hid (Fr [] wx wx.drew) := Lib.hid (Fr.drew (Fr.refl [] wx))
      have HBBd := Lib.hid (HBB.out.keep HWD.out (by simp) (by simp))
      generalize wx.drew = wd at *
      refine till_run (i := 0) (v := ?_) rfl (by kernel_rfl) (by rfl) (fun _ _ _ h => h) hA hB (fun w1 hw1 => ?_) ?_
      rotate_left 1
      · skip
        go_simp
        (try (first | with_reducible rfl | (apply And.intro <;> rfl)))
      simp only [Act.put, List.setIfInBounds_toArray, List.set_cons_zero, List.set_cons_succ]
      refine till_run (i := 1) (v := ?_) rfl (by kernel_rfl) (by rfl) (fun _ _ _ h => h) hA hB (fun w1 hw1 => ?_) ?_
      rotate_left 1
      · skip
        have hcw0 := hw1.cell (HC37.out) (by first | (simp; done) | exact HNS.out | exact HNW.out | (intro hm; have hlt := HSB.out _ hm; (try dsimp only at hlt); omega))
        go_simp
        (try (first | with_reducible rfl | (apply And.intro <;> rfl)))
      simp only [Act.put, List.setIfInBounds_toArray, List.set_cons_zero, List.set_cons_succ]
      refine till_run (i := 2) (v := ?_) rfl (by kernel_rfl) (by rfl) (fun _ _ _ h => h) hA hB (fun w1 hw1 => ?_) ?_
      rotate_left 1
      · skip
        go_simp
        (try (first | with_reducible rfl | (apply And.intro <;> rfl)))
      simp only [Act.put, List.setIfInBounds_toArray, List.set_cons_zero, List.set_cons_succ]
      refine till_row (i := 3) rfl (by kernel_rfl) (by rfl) _ _ rfl _ _ rfl _ (fun w1 hw1 => hw1.range HBXx.out.range HNK.out) row_books (fun _ _ _ h => h) hA hB ?_
      simp only [Act.put, List.setIfInBounds_toArray, List.set_cons_zero, List.set_cons_succ]
      refine till_run (i := 4) (v := ?_) rfl (by kernel_rfl) (by rfl) (fun _ _ _ h => h) hA hB (fun w1 hw1 => ?_) ?_
      rotate_left 1
      · skip
        go_simp
        (try (first | with_reducible rfl | (apply And.intro <;> rfl)))
      simp only [Act.put, List.setIfInBounds_toArray, List.set_cons_zero, List.set_cons_succ]
      refine till_run (i := 5) (v := ?_) rfl (by kernel_rfl) (by rfl) (fun _ _ _ h => h) hA hB (fun w1 hw1 => ?_) ?_
      rotate_left 1
      · skip
        have hcw0 := hw1.cell (HC37.out) (by first | (simp; done) | exact HNS.out | exact HNW.out | (intro hm; have hlt := HSB.out _ hm; (try dsimp only at hlt); omega))
        go_simp
        (try (first | with_reducible rfl | (apply And.intro <;> rfl)))
      simp only [Act.put, List.setIfInBounds_toArray, List.set_cons_zero, List.set_cons_succ]
      refine till_run (i := 6) (v := ?_) rfl (by kernel_rfl) (by rfl) (fun _ _ _ h => h) hA hB (fun w1 hw1 => ?_) ?_
      rotate_left 1
      · skip
        go_simp
        (try (first | with_reducible rfl | (apply And.intro <;> rfl)))
      simp only [Act.put, List.setIfInBounds_toArray, List.set_cons_zero, List.set_cons_succ]
      refine till_run (i := 7) (v := ?_) rfl (by kernel_rfl) (by rfl) (fun _ _ _ h => h) hA hB (fun w1 hw1 => ?_) ?_
      rotate_left 1
      · skip
        go_simp
        (try (first | with_reducible rfl | (apply And.intro <;> rfl)))
      simp only [Act.put, List.setIfInBounds_toArray, List.set_cons_zero, List.set_cons_succ]
      refine till_run (i := 8) (v := ?_) rfl (by kernel_rfl) (by rfl) (fun _ _ _ h => h) hA hB (fun w1 hw1 => ?_) ?_
      rotate_left 1
      · skip
        go_simp
        (try (first | with_reducible rfl | (apply And.intro <;> rfl)))
      simp only [Act.put, List.setIfInBounds_toArray, List.set_cons_zero, List.set_cons_succ]
      refine till_run (i := 9) (v := ?_) rfl (by kernel_rfl) (by rfl) (fun _ _ _ h => h) hA hB (fun w1 hw1 => ?_) ?_
      rotate_left 1
      · skip
        have hcw0 := hw1.cell (HVR.out) (by first | (simp; done) | exact HNS.out | exact HNW.out | (intro hm; have hlt := HSB.out _ hm; (try dsimp only at hlt); omega))
        go_simp
        (try (first | with_reducible rfl | (apply And.intro <;> rfl)))
      simp only [Act.put, List.setIfInBounds_toArray, List.set_cons_zero, List.set_cons_succ]
      refine till_run (i := 10) (v := ?_) rfl (by kernel_rfl) (by rfl) (fun _ _ _ h => h) hA hB (fun w1 hw1 => ?_) ?_
      rotate_left 1
      · skip
        go_simp
        (try (first | with_reducible rfl | (apply And.intro <;> rfl)))
      simp only [Act.put, List.setIfInBounds_toArray, List.set_cons_zero, List.set_cons_succ]
      refine till_row (i := 11) rfl (by kernel_rfl) (by rfl) _ _ rfl _ _ rfl _ (fun w1 hw1 => hw1.range HXR.out HNS.out) (row_commit.of HZL.out) (fun _ _ _ h => h) hA hB ?_
      simp only [Act.put, List.setIfInBounds_toArray, List.set_cons_zero, List.set_cons_succ]
      refine till_call (i := 12) (f := ?_) (args := ?_) rfl (by kernel_rfl) (by rfl) ?_ ?_
      rotate_left 2
      · go_simp
        (try (first | with_reducible rfl | (apply And.intro <;> rfl)))
      have hst := bkStamp_any v.r HVO.out.r z HZ.out 0 (by omega) wd Sb gb Sr8 gr l8 HBBd.out (by omega)
      rw [show ((0 : Nat) : Int) = 0 from rfl] at hst
      refine hst.mono ?_
      rintro e_ w5 ⟨rfl, Sr2, hb2, hf2, hs2⟩
      have HYO : Hid (stOf v.r z 0 l8).Ok := Lib.hid (stOf_ok HVO.out.r HZ.out (by omega) (by omega))
      have HF5 : Hid (Fr (Sb ++ Sr8) wx w5) := Lib.hid ((HWD.out.mono (T := Sb ++ Sr8) (by simp)).trans hf2 (fun x hx _ => hx))
      have hwd := HWD.out.size
      have HS2 : Hid (∀ k ∈ Sr2, k < wx.heap.size → k ∈ Sr8) := Lib.hid (fun k hk h => hs2 k hk (by omega))
      have HBB5 := Lib.hid hb2
      refine ⟨_, rfl, ⟨hA.trans hf2 (fun x hx _ => List.mem_cons_of_mem _ hx), hB.trans hf2 (fun x hx _ => hx)⟩, fun hB => ?_⟩
      replace hA := hA.trans hf2 (fun x hx _ => List.mem_cons_of_mem _ hx)
      clear hb2 hf2 hs2 hst
      generalize stOf v.r z 0 l8 = y at *
      generalize bkOf v.r z 0 l8 = l2 at *
      have HO5 := Lib.hid (own_keep HOW.out HF5.out (fun k hk hm => by
        have hk' := (bk_mem (some ⟨g8, 0, none⟩) m c8 k).1 hk
        simp [bk] at hk'
        subst hk'
        rcases List.mem_append.1 hm with h | h
        · exact HDJ.out.1 h
        · exact HG8.out.2.2 h))
      have HLEN : Hid (∀ u ∈ L, (Wst.cells u).length = 38) := Lib.hid (fun u hu => Wst.len (HLO.out u hu).h)
      have HD : Hid (y.cells.length = 38) := Lib.hid (Wst.len HYO.out.h)
      have HPUT := Lib.hid (own_put (cells := Wst.cells) HO5.out HLEN.out (i := q) (by rw [HLL.out]; exact hqn) y HD.out)
      have HN1 := Lib.hid (all_oneCell_toArray (Wst.one y))
      have HTH : Hid (w5.there g8 (q * 38) y.cells.toArray.size) := Lib.hid (by rw [List.size_toArray, HD.out]; exact HPUT.out.2)
      have HNS2 : Hid ((Try.prog.info? 51).map (·.size) = some y.cells.toArray.size) := Lib.hid (by rw [List.size_toArray, HD.out]; kernel_rfl)
      unfold Wst.val
      obtain ⟨D, hD⟩ : ∃ D, y.cells = D := ⟨_, rfl⟩
      rw [hD] at HPUT HN1 HTH HNS2
      rw [hD]
      clear hD
      simp only [Act.put, List.setIfInBounds_toArray, List.set_cons_zero, List.set_cons_succ]
      refine till_run (i := 13) (v := ?_) rfl (by kernel_rfl) (by rfl) (fun _ _ _ h => h) hA hB (fun w1 hw1 => ?_) ?_
      rotate_left 1
      · skip
        go_simp
        (try (first | with_reducible rfl | (apply And.intro <;> rfl)))
      simp only [Act.put, List.setIfInBounds_toArray, List.set_cons_zero, List.set_cons_succ]
      refine till_step (i := 14) rfl (by kernel_rfl) (by kernel_rfl) (by rfl) (fun K hK => ?_)
      refine wp_store_mid 51 _ _ rfl g8 (q * 38) D.toArray rfl rfl HTH.out HNS2.out HN1.out ?_
      rw [show D.toArray.toList = D from rfl]
      have HFS : Hid (Fr [g8] w5 (w5.setCells g8 (q * 38) D)) := Lib.hid (Fr.setCells (fun _ => by simp) _ _ _ (Fr.refl _ _))
      have HO10 := Lib.hid HPUT.out.1
      generalize w5.setCells g8 (q * 38) D = w10 at *
      refine hK.out _ _ (hA.trans HFS.out (fun x hx _ => by simp at hx; simp [hx])) (fun hA => ?_)
      clear hK K
      simp only [Act.put, List.setIfInBounds_toArray, List.set_cons_zero, List.set_cons_succ]
      refine till_done (by kernel_rfl) ?_ _
      clear hA hB
      go_wp2_with fail
      go_meet
      have hgs : ∀ k ∈ Sr2, k ≠ g8 := fun k hk e => by subst e; exact HG8.out.2.2 (HS2.out _ hk (HCR8.out))
      exact ⟨z, some ⟨g8, 0, none⟩, m, c8, _, l2, Sr2, Lib.hid ⟨HZ.out, (HX.out.keep HF5.out (fun hm => by
          rcases List.mem_append.1 hm with h | h
          · exact HDX.out.1 h
          · exact HDX.out.2.2.2.2 h)).keep HFS.out (by simp; exact fun e => HG8.out.2.1 e.symm), Lst.of_own HO10.out (by rw [List.length_set]; exact HLL.out) (fun u hu => by
          rcases List.mem_or_eq_of_mem_set hu with h | h
          · exact ⟨HLEN.out u h, HLO.out u h⟩
          · rw [h]; exact ⟨HD.out, HYO.out⟩), HCR.out.fn, HC8.out, HBB5.out.keep HFS.out (fun k hk hm => by simp at hm; subst hm; exact HDJ.out.1 hk) (fun k hk hm => hgs k hk (by simpa using hm)),
          (HCFx.out.keep HF5.out HNCC.out).keep HFS.out (by simp; exact fun e => HDJ.out.2.1 e.symm), (HBXx.out.keep HF5.out HNK.out).keep HFS.out (by simp; exact fun e => HDJ.out.2.2.1 e.symm),
          (HFWx.out.and HF5.out HWG.out).and HFS.out (by have := HDJ.out.2.2.2; simpa using this)⟩⟩
    · as_aux_lemma =>
      have hz := HX.out.frozen 37
      clear hz
      go_upto_region 27 with (fail)
      refine wp_region_till 14 (Fr (g8 :: (Sb ++ Sr8)) wx) (Fr (Sb ++ Sr8) wx) (by kernel_rfl) (Fr.drew (Fr.refl _ wx)) (Fr.drew (Fr.refl _ wx)) (fun hA hB => ?_)
      have HWD : Hid (Fr [] wx wx.drew) := Lib.hid (Fr.drew (Fr.refl [] wx))
      have HBBd := Lib.hid (HBB.out.keep HWD.out (by simp) (by simp))
      generalize wx.drew = wd at *
      refine till_run (i := 0) (v := ?_) rfl (by kernel_rfl) (by rfl) (fun _ _ _ h => h) hA hB (fun w1 hw1 => ?_) ?_
      rotate_left 1
      · skip
        go_simp
        (try (first | with_reducible rfl | (apply And.intro <;> rfl)))
      simp only [Act.put, List.setIfInBounds_toArray, List.set_cons_zero, List.set_cons_succ]
      refine till_run (i := 1) (v := ?_) rfl (by kernel_rfl) (by rfl) (fun _ _ _ h => h) hA hB (fun w1 hw1 => ?_) ?_
      rotate_left 1
      · skip
        have hcw0 := hw1.cell (HC37.out) (by first | (simp; done) | exact HNS.out | exact HNW.out | (intro hm; have hlt := HSB.out _ hm; (try dsimp only at hlt); omega))
        go_simp
        (try (first | with_reducible rfl | (apply And.intro <;> rfl)))
      simp only [Act.put, List.setIfInBounds_toArray, List.set_cons_zero, List.set_cons_succ]
      refine till_run (i := 2) (v := ?_) rfl (by kernel_rfl) (by rfl) (fun _ _ _ h => h) hA hB (fun w1 hw1 => ?_) ?_
      rotate_left 1
      · skip
        go_simp
        (try (first | with_reducible rfl | (apply And.intro <;> rfl)))
      simp only [Act.put, List.setIfInBounds_toArray, List.set_cons_zero, List.set_cons_succ]
      refine till_row (i := 3) rfl (by kernel_rfl) (by rfl) _ _ rfl _ _ rfl _ (fun w1 hw1 => hw1.range HBXx.out.range HNK.out) row_books (fun _ _ _ h => h) hA hB ?_
      simp only [Act.put, List.setIfInBounds_toArray, List.set_cons_zero, List.set_cons_succ]
      refine till_run (i := 4) (v := ?_) rfl (by kernel_rfl) (by rfl) (fun _ _ _ h => h) hA hB (fun w1 hw1 => ?_) ?_
      rotate_left 1
      · skip
        go_simp
        (try (first | with_reducible rfl | (apply And.intro <;> rfl)))
      simp only [Act.put, List.setIfInBounds_toArray, List.set_cons_zero, List.set_cons_succ]
      refine till_run (i := 5) (v := ?_) rfl (by kernel_rfl) (by rfl) (fun _ _ _ h => h) hA hB (fun w1 hw1 => ?_) ?_
      rotate_left 1
      · skip
        have hcw0 := hw1.cell (HC37.out) (by first | (simp; done) | exact HNS.out | exact HNW.out | (intro hm; have hlt := HSB.out _ hm; (try dsimp only at hlt); omega))
        go_simp
        (try (first | with_reducible rfl | (apply And.intro <;> rfl)))
      simp only [Act.put, List.setIfInBounds_toArray, List.set_cons_zero, List.set_cons_succ]
      refine till_run (i := 6) (v := ?_) rfl (by kernel_rfl) (by rfl) (fun _ _ _ h => h) hA hB (fun w1 hw1 => ?_) ?_
      rotate_left 1
      · skip
        go_simp
        (try (first | with_reducible rfl | (apply And.intro <;> rfl)))
      simp only [Act.put, List.setIfInBounds_toArray, List.set_cons_zero, List.set_cons_succ]
      refine till_run (i := 7) (v := ?_) rfl (by kernel_rfl) (by rfl) (fun _ _ _ h => h) hA hB (fun w1 hw1 => ?_) ?_
      rotate_left 1
      · skip
        go_simp
        (try (first | with_reducible rfl | (apply And.intro <;> rfl)))
      simp only [Act.put, List.setIfInBounds_toArray, List.set_cons_zero, List.set_cons_succ]
      refine till_run (i := 8) (v := ?_) rfl (by kernel_rfl) (by rfl) (fun _ _ _ h => h) hA hB (fun w1 hw1 => ?_) ?_
      rotate_left 1
      · skip
        go_simp
        (try (first | with_reducible rfl | (apply And.intro <;> rfl)))
      simp only [Act.put, List.setIfInBounds_toArray, List.set_cons_zero, List.set_cons_succ]
      refine till_run (i := 9) (v := ?_) rfl (by kernel_rfl) (by rfl) (fun _ _ _ h => h) hA hB (fun w1 hw1 => ?_) ?_
      rotate_left 1
      · skip
        have hcw0 := hw1.cell (HVR.out) (by first | (simp; done) | exact HNS.out | exact HNW.out | (intro hm; have hlt := HSB.out _ hm; (try dsimp only at hlt); omega))
        go_simp
        (try (first | with_reducible rfl | (apply And.intro <;> rfl)))
      simp only [Act.put, List.setIfInBounds_toArray, List.set_cons_zero, List.set_cons_succ]
      refine till_run (i := 10) (v := ?_) rfl (by kernel_rfl) (by rfl) (fun _ _ _ h => h) hA hB (fun w1 hw1 => ?_) ?_
      rotate_left 1
      · skip
        go_simp
        (try (first | with_reducible rfl | (apply And.intro <;> rfl)))
      simp only [Act.put, List.setIfInBounds_toArray, List.set_cons_zero, List.set_cons_succ]
      refine till_row (i := 11) rfl (by kernel_rfl) (by rfl) _ _ rfl _ _ rfl _ (fun w1 hw1 => hw1.range HXR.out HNS.out) (row_commit.of HZL.out) (fun _ _ _ h => h) hA hB ?_
      simp only [Act.put, List.setIfInBounds_toArray, List.set_cons_zero, List.set_cons_succ]
      refine till_call (i := 12) (f := ?_) (args := ?_) rfl (by kernel_rfl) (by rfl) ?_ ?_
      rotate_left 2
      · go_simp
        (try (first | with_reducible rfl | (apply And.intro <;> rfl)))
      have hst := bkStamp_any v.r HVO.out.r z HZ.out 18446744073709551615 (by omega) wd Sb gb Sr8 gr l8 HBBd.out (by omega)
      rw [show ((18446744073709551615 : Nat) : Int) = 18446744073709551615 from rfl] at hst
      refine hst.mono ?_
      rintro e_ w5 ⟨rfl, Sr2, hb2, hf2, hs2⟩
      have HYO : Hid (stOf v.r z 18446744073709551615 l8).Ok := Lib.hid (stOf_ok HVO.out.r HZ.out (by omega) (by omega))
      have HF5 : Hid (Fr (Sb ++ Sr8) wx w5) := Lib.hid ((HWD.out.mono (T := Sb ++ Sr8) (by simp)).trans hf2 (fun x hx _ => hx))
      have hwd := HWD.out.size
      have HS2 : Hid (∀ k ∈ Sr2, k < wx.heap.size → k ∈ Sr8) := Lib.hid (fun k hk h => hs2 k hk (by omega))
      have HBB5 := Lib.hid hb2
      refine ⟨_, rfl, ⟨hA.trans hf2 (fun x hx _ => List.mem_cons_of_mem _ hx), hB.trans hf2 (fun x hx _ => hx)⟩, fun hB => ?_⟩
      replace hA := hA.trans hf2 (fun x hx _ => List.mem_cons_of_mem _ hx)
      clear hb2 hf2 hs2 hst
      generalize stOf v.r z 18446744073709551615 l8 = y at *
      generalize bkOf v.r z 18446744073709551615 l8 = l2 at *
      have HO5 := Lib.hid (own_keep HOW.out HF5.out (fun k hk hm => by
        have hk' := (bk_mem (some ⟨g8, 0, none⟩) m c8 k).1 hk
        simp [bk] at hk'
        subst hk'
        rcases List.mem_append.1 hm with h | h
        · exact HDJ.out.1 h
        · exact HG8.out.2.2 h))
      have HLEN : Hid (∀ u ∈ L, (Wst.cells u).length = 38) := Lib.hid (fun u hu => Wst.len (HLO.out u hu).h)
      have HD : Hid (y.cells.length = 38) := Lib.hid (Wst.len HYO.out.h)
      have HPUT := Lib.hid (own_put (cells := Wst.cells) HO5.out HLEN.out (i := q) (by rw [HLL.out]; exact hqn) y HD.out)
      have HN1 := Lib.hid (all_oneCell_toArray (Wst.one y))
      have HTH : Hid (w5.there g8 (q * 38) y.cells.toArray.size) := Lib.hid (by rw [List.size_toArray, HD.out]; exact HPUT.out.2)
      have HNS2 : Hid ((Try.prog.info? 51).map (·.size) = some y.cells.toArray.size) := Lib.hid (by rw [List.size_toArray, HD.out]; kernel_rfl)
      unfold Wst.val
      obtain ⟨D, hD⟩ : ∃ D, y.cells = D := ⟨_, rfl⟩
      rw [hD] at HPUT HN1 HTH HNS2
      rw [hD]
      clear hD
      simp only [Act.put, List.setIfInBounds_toArray, List.set_cons_zero, List.set_cons_succ]
      refine till_run (i := 13) (v := ?_) rfl (by kernel_rfl) (by rfl) (fun _ _ _ h => h) hA hB (fun w1 hw1 => ?_) ?_
      rotate_left 1
      · skip
        go_simp
        (try (first | with_reducible rfl | (apply And.intro <;> rfl)))
      simp only [Act.put, List.setIfInBounds_toArray, List.set_cons_zero, List.set_cons_succ]
      refine till_step (i := 14) rfl (by kernel_rfl) (by kernel_rfl) (by rfl) (fun K hK => ?_)
      refine wp_store_mid 51 _ _ rfl g8 (q * 38) D.toArray rfl rfl HTH.out HNS2.out HN1.out ?_
      rw [show D.toArray.toList = D from rfl]
      have HFS : Hid (Fr [g8] w5 (w5.setCells g8 (q * 38) D)) := Lib.hid (Fr.setCells (fun _ => by simp) _ _ _ (Fr.refl _ _))
      have HO10 := Lib.hid HPUT.out.1
      generalize w5.setCells g8 (q * 38) D = w10 at *
      refine hK.out _ _ (hA.trans HFS.out (fun x hx _ => by simp at hx; simp [hx])) (fun hA => ?_)
      clear hK K
      simp only [Act.put, List.setIfInBounds_toArray, List.set_cons_zero, List.set_cons_succ]
      refine till_done (by kernel_rfl) ?_ _
      clear hA hB
      go_wp2_with fail
      go_meet
      have hgs : ∀ k ∈ Sr2, k ≠ g8 := fun k hk e => by subst e; exact HG8.out.2.2 (HS2.out _ hk (HCR8.out))
      exact ⟨z, some ⟨g8, 0, none⟩, m, c8, _, l2, Sr2, Lib.hid ⟨HZ.out, (HX.out.keep HF5.out (fun hm => by
          rcases List.mem_append.1 hm with h | h
          · exact HDX.out.1 h
          · exact HDX.out.2.2.2.2 h)).keep HFS.out (by simp; exact fun e => HG8.out.2.1 e.symm), Lst.of_own HO10.out (by rw [List.length_set]; exact HLL.out) (fun u hu => by
          rcases List.mem_or_eq_of_mem_set hu with h | h
          · exact ⟨HLEN.out u h, HLO.out u h⟩
          · rw [h]; exact ⟨HD.out, HYO.out⟩), HCR.out.fn, HC8.out, HBB5.out.keep HFS.out (fun k hk hm => by simp at hm; subst hm; exact HDJ.out.1 hk) (fun k hk hm => hgs k hk (by simpa using hm)),
          (HCFx.out.keep HF5.out HNCC.out).keep HFS.out (by simp; exact fun e => HDJ.out.2.1 e.symm), (HBXx.out.keep HF5.out HNK.out).keep HFS.out (by simp; exact fun e => HDJ.out.2.2.1 e.symm),
          (HFWx.out.and HF5.out HWG.out).and HFS.out (by have := HDJ.out.2.2.2; simpa using this)⟩⟩
  case rest =>
  obtain ⟨k9, A9, n9, c9, L9, l9, Sr9, HCX⟩ := hcut
  rename World => wy
  rename_i Kc hcx
  refine hcx _ _ ?_
  clear hcx Kc
  have hX9 := HCX.out
  have HND := Lib.hid hX9.fbb.nd
  have HBK := Lib.hid hX9.fbb.b
  have HRB := Lib.hid hX9.fbb.r
  have HFF : Hid (-1099511627776 ≤ (Fn : Int) ∧ (Fn : Int) ≤ 1099511627776) := Lib.hid (by omega)
  have HSRL := Lib.hid hX9.fbb.r.lt
  have HCF9 := Lib.hid hX9.fcf.range
  have HFW9 := Lib.hid hX9.ff
  have hp0 := hX9.fbx.cell 0
  have hp1 := hX9.fbx.cell 1
  simp only [List.getElem?_toArray, List.getElem?_cons_zero, List.getElem?_cons_succ] at hp0 hp1
  have HP0 : Hid (wy.cell? ⟨gKb, 0, none⟩ = some (.pointer (some ⟨gb, 0, none⟩))) := Lib.hid (by simpa using hp0)
  have HP1 : Hid (wy.cell? ⟨gKb, 1, none⟩ = some (.pointer (some ⟨gr, 0, none⟩))) := Lib.hid (by simpa using hp1)
  have hzl : k9.cells.length = 37 := Cm.len hX9.fz.h
  have H37 : Hid (wy.cell? ⟨gX, 37, none⟩ = some (.slice A9 n9 c9)) := Lib.hid (by
    have h := hX9.fb.range 37 (.slice A9 n9 c9) (by rw [List.getElem?_append_right (by omega), hzl]; rfl)
    simpa using h)
  have HCE9 := Lib.hid hX9.fb.range
  have hn9 := hX9.fn
  obtain ⟨Y, hYe⟩ : ∃ Y : Wce, Y = ⟨⟨k9.c, k9.s, k9.h, k9.n, k9.b, k9.m⟩, A9, n9, c9, L9⟩ := ⟨_, rfl⟩
  obtain ⟨C, hC⟩ : ∃ C, C = k9.cells ++ [Value.slice A9 n9 c9] := ⟨_, rfl⟩
  have HC2 : Hid (Y.cells = C) := Lib.hid (by rw [hYe, hC]; rfl)
  have HXI : Hid (Y.In wy) := Lib.hid (by rw [hYe]; exact ⟨⟨hX9.fz.c, hX9.fz.s, hX9.fz.h, hX9.fz.n, hX9.fz.b, hX9.fz.m⟩, hX9.fl, by show n9 ≤ maxLen; unfold maxLen; omega, hX9.fc⟩)
  have HN50 : Hid (Y.n < 50) := Lib.hid (by rw [hYe]; show n9 < 50; omega)
  have HCL : Hid (C.length = 38) := Lib.hid (by rw [hC]; simp [hzl])
  rw [← hC] at HCE9
  obtain ⟨ad0, v0, hA0, hv0, hcl0, hok0, hcells0⟩ := hX9.fl.at (i := 0) hn9.1
  have HV0 := Lib.hid hok0
  have HSL0 := Lib.hid hcl0
  have HCELL0 := Lib.hid hcells0
  subst hA0
  obtain ⟨r1, hr1⟩ : ∃ r, certB (Fn : Int) 3 l9 Y = r := ⟨_, rfl⟩
  have HR1 := Lib.hid hr1
  obtain ⟨r2, hr2⟩ : ∃ r, stampB (Fn : Int) l9 v0 = r := ⟨_, rfl⟩
  have HR2 := Lib.hid hr2
  clear hr1 hr2 hX9 HCX hp0 hp1 hzl hYe hC hv0 hcl0 hok0 hcells0
  have hn90 : (0 : Int) < n9 := by omega
  as_aux_lemma =>
  go_upto_region 28 with (fail)
  refine wp_region_held_drew (S := Fr [] wy) (by kernel_rfl) (Fr.drew (Fr.refl _ wy)) (fun hHeld => ?_)
  refine row_at (i := 0) rfl (by kernel_rfl) (by rfl) _ _ rfl _ _ rfl _ (fun w1 hw1 => hw1.range (HCF9.out) (by first | (simp; done) | exact HNS.out | exact HNW.out | (intro hm; have hlt := HSB.out _ hm; (try dsimp only at hlt); omega))) (row_conf) (fun _ _ _ h => h) hHeld ?_
  simp only [Act.put, List.setIfInBounds_toArray, List.set_cons_zero, List.set_cons_succ]
  refine run_at (i := 1) (v := ?_) rfl (by kernel_rfl) (by rfl) (fun _ _ _ h => h) hHeld (fun w1 hw1 => ?_) ?_
  rotate_left 1
  · skip
    go_simp
    (try (first | with_reducible rfl | (apply And.intro <;> rfl)))
  simp only [Act.put, List.setIfInBounds_toArray, List.set_cons_zero, List.set_cons_succ]
  refine run_at (i := 2) (v := ?_) rfl (by kernel_rfl) (by rfl) (fun _ _ _ h => h) hHeld (fun w1 hw1 => ?_) ?_
  rotate_left 1
  · skip
    have hcw0 := hw1.cell (HP0.out) (by first | (simp; done) | exact HNS.out | exact HNW.out | (intro hm; have hlt := HSB.out _ hm; (try dsimp only at hlt); omega))
    go_simp
    (try (first | with_reducible rfl | (apply And.intro <;> rfl)))
  simp only [Act.put, List.setIfInBounds_toArray, List.set_cons_zero, List.set_cons_succ]
  refine row_at (i := 3) rfl (by kernel_rfl) (by rfl) _ _ rfl _ _ rfl _ (fun w1 hw1 => hw1.range (HCE9.out) (by first | (simp; done) | exact HNS.out | exact HNW.out | (intro hm; have hlt := HSB.out _ hm; (try dsimp only at hlt); omega))) (row_cer2.of HCL.out) (fun _ _ _ h => h) hHeld ?_
  simp only [Act.put, List.setIfInBounds_toArray, List.set_cons_zero, List.set_cons_succ]
  refine row_at (i := 5) rfl (by kernel_rfl) (by rfl) _ _ rfl _ _ rfl _ (fun w1 hw1 => hw1.range (HCF9.out) (by first | (simp; done) | exact HNS.out | exact HNW.out | (intro hm; have hlt := HSB.out _ hm; (try dsimp only at hlt); omega))) (row_conf) (fun _ _ _ h => h) hHeld ?_
  simp only [Act.put, List.setIfInBounds_toArray, List.set_cons_zero, List.set_cons_succ]
  refine run_at (i := 6) (v := ?_) rfl (by kernel_rfl) (by rfl) (fun _ _ _ h => h) hHeld (fun w1 hw1 => ?_) ?_
  rotate_left 1
  · skip
    go_simp
    (try (first | with_reducible rfl | (apply And.intro <;> rfl)))
  simp only [Act.put, List.setIfInBounds_toArray, List.set_cons_zero, List.set_cons_succ]
  refine run_at (i := 7) (v := ?_) rfl (by kernel_rfl) (by rfl) (fun _ _ _ h => h) hHeld (fun w1 hw1 => ?_) ?_
  rotate_left 1
  · skip
    have hcw0 := hw1.cell (HP1.out) (by first | (simp; done) | exact HNS.out | exact HNW.out | (intro hm; have hlt := HSB.out _ hm; (try dsimp only at hlt); omega))
    go_simp
    (try (first | with_reducible rfl | (apply And.intro <;> rfl)))
  simp only [Act.put, List.setIfInBounds_toArray, List.set_cons_zero, List.set_cons_succ]
  refine row_at (i := 8) rfl (by kernel_rfl) (by rfl) _ _ rfl _ _ rfl _ (fun w1 hw1 => hw1.range (HCE9.out) (by first | (simp; done) | exact HNS.out | exact HNW.out | (intro hm; have hlt := HSB.out _ hm; (try dsimp only at hlt); omega))) (row_cer2.of HCL.out) (fun _ _ _ h => h) hHeld ?_
  simp only [Act.put, List.setIfInBounds_toArray, List.set_cons_zero, List.set_cons_succ]
  refine call_at (i := 4) (f := ?_) (args := ?_) rfl (by kernel_rfl) (by rfl) ?_ ?_
  rotate_left 2
  · go_simp
    (try (first | with_reducible rfl | (apply And.intro <;> rfl)))
  have hh := cert_any (Fn : Int) 3 HFF.out Y _ (HXI.out.keep hHeld) C HC2.out Sb gb l9 (HBK.out.keep hHeld (by simp))
  rw [HR1.out] at hh
  refine hh.mono ?_
  rintro e w2 ⟨rfl, hf2⟩
  refine ⟨_, rfl, hHeld.and hf2 (by simp), fun hHeld => ?_⟩
  clear hf2 hh
  simp only [Act.put, List.setIfInBounds_toArray, List.set_cons_zero, List.set_cons_succ]
  refine call_at (i := 9) (f := ?_) (args := ?_) rfl (by kernel_rfl) (by rfl) ?_ ?_
  rotate_left 2
  · go_simp
    (try (first | with_reducible rfl | (apply And.intro <;> rfl)))
  have hh := refcert_any (Fn : Int) 3 HFF.out Y _ (HXI.out.keep hHeld) C HC2.out Sr9 gr l9 (HRB.out.keep hHeld (by simp)) HND.out (.inl (by decide))
  rw [HR1.out] at hh
  refine hh.mono ?_
  rintro e w2 ⟨rfl, hf2⟩
  refine ⟨_, rfl, hHeld.and hf2 (by simp), fun hHeld => ?_⟩
  clear hf2 hh
  simp only [Act.put, List.setIfInBounds_toArray, List.set_cons_zero, List.set_cons_succ]
  refine run_at (i := 10) (v := ?_) rfl (by kernel_rfl) (by rfl) (fun _ _ _ h => h) hHeld (fun w1 hw1 => ?_) ?_
  rotate_left 1
  · skip
    go_simp
    (try (first | with_reducible rfl | (apply And.intro <;> rfl)))
  simp only [Act.put, List.setIfInBounds_toArray, List.set_cons_zero, List.set_cons_succ]
  refine run_at (i := 11) (v := ?_) rfl (by kernel_rfl) (by rfl) (fun _ _ _ h => h) hHeld (fun w1 hw1 => ?_) ?_
  rotate_left 1
  · skip
    go_simp
    (try (first | with_reducible rfl | (apply And.intro <;> rfl)))
  simp only [Act.put, List.setIfInBounds_toArray, List.set_cons_zero, List.set_cons_succ]
  refine row_at (i := 12) rfl (by kernel_rfl) (by rfl) _ _ rfl _ _ rfl _ (fun w1 hw1 => hw1.range (HCE9.out) (by first | (simp; done) | exact HNS.out | exact HNW.out | (intro hm; have hlt := HSB.out _ hm; (try dsimp only at hlt); omega))) (row_cer2.of HCL.out) (fun _ _ _ h => h) hHeld ?_
  simp only [Act.put, List.setIfInBounds_toArray, List.set_cons_zero, List.set_cons_succ]
  refine row_at (i := 14) rfl (by kernel_rfl) (by rfl) _ _ rfl _ _ rfl _ (fun w1 hw1 => hw1.range (HCE9.out) (by first | (simp; done) | exact HNS.out | exact HNW.out | (intro hm; have hlt := HSB.out _ hm; (try dsimp only at hlt); omega))) (row_cer2.of HCL.out) (fun _ _ _ h => h) hHeld ?_
  simp only [Act.put, List.setIfInBounds_toArray, List.set_cons_zero, List.set_cons_succ]
  refine call_at (i := 13) (f := ?_) (args := ?_) rfl (by kernel_rfl) (by rfl) ?_ ?_
  rotate_left 2
  · go_simp
    (try (first | with_reducible rfl | (apply And.intro <;> rfl)))
  have hh := time_any Y _ (HXI.out.keep hHeld) HN50.out C HC2.out
  refine hh.mono ?_
  rintro e w2 ⟨m1, rfl, hm1, hz1, hf2⟩
  refine ⟨_, rfl, hHeld.and hf2 (by simp), fun hHeld => ?_⟩
  have HM1 := Lib.hid (And.intro hm1 hz1)
  clear hf2 hh hm1 hz1
  simp only [Act.put, List.setIfInBounds_toArray, List.set_cons_zero, List.set_cons_succ]
  refine call_at (i := 15) (f := ?_) (args := ?_) rfl (by kernel_rfl) (by rfl) ?_ ?_
  rotate_left 2
  · go_simp
    (try (first | with_reducible rfl | (apply And.intro <;> rfl)))
  have hh := reftime_any Y _ (HXI.out.keep hHeld) HN50.out C HC2.out
  refine hh.mono ?_
  rintro e w2 ⟨m2, rfl, hm2, hz2, hf2⟩
  refine ⟨_, rfl, hHeld.and hf2 (by simp), fun hHeld => ?_⟩
  have hmm : m1 = m2 := by
    rcases Nat.mod_two_eq_zero_or_one Y.n with h | h
    · rw [HM1.out.2 h, hz2 h]
    · exact (HM1.out.1 h).one (hm2 h)
  subst hmm
  clear hf2 hh hm2 hz2
  simp only [Act.put, List.setIfInBounds_toArray, List.set_cons_zero, List.set_cons_succ]
  refine run_at (i := 16) (v := ?_) rfl (by kernel_rfl) (by rfl) (fun _ _ _ h => h) hHeld (fun w1 hw1 => ?_) ?_
  rotate_left 1
  · skip
    go_simp
    (try (first | with_reducible rfl | (apply And.intro <;> rfl)))
  simp only [Act.put, List.setIfInBounds_toArray, List.set_cons_zero, List.set_cons_succ]
  refine run_at (i := 17) (v := ?_) rfl (by kernel_rfl) (by rfl) (fun _ _ _ h => h) hHeld (fun w1 hw1 => ?_) ?_
  rotate_left 1
  · skip
    go_simp
    (try (first | with_reducible rfl | (apply And.intro <;> rfl)))
  simp only [Act.put, List.setIfInBounds_toArray, List.set_cons_zero, List.set_cons_succ]
  refine run_at (i := 18) (v := ?_) rfl (by kernel_rfl) (by rfl) (fun _ _ _ h => h) hHeld (fun w1 hw1 => ?_) ?_
  rotate_left 1
  · skip
    go_simp
    (try (first | with_reducible rfl | (apply And.intro <;> rfl)))
  simp only [Act.put, List.setIfInBounds_toArray, List.set_cons_zero, List.set_cons_succ]
  refine row_at (i := 19) rfl (by kernel_rfl) (by rfl) _ _ rfl _ _ rfl _ (fun w1 hw1 => hw1.range (HCF9.out) (by first | (simp; done) | exact HNS.out | exact HNW.out | (intro hm; have hlt := HSB.out _ hm; (try dsimp only at hlt); omega))) (row_conf) (fun _ _ _ h => h) hHeld ?_
  simp only [Act.put, List.setIfInBounds_toArray, List.set_cons_zero, List.set_cons_succ]
  refine run_at (i := 20) (v := ?_) rfl (by kernel_rfl) (by rfl) (fun _ _ _ h => h) hHeld (fun w1 hw1 => ?_) ?_
  rotate_left 1
  · skip
    go_simp
    (try (first | with_reducible rfl | (apply And.intro <;> rfl)))
  simp only [Act.put, List.setIfInBounds_toArray, List.set_cons_zero, List.set_cons_succ]
  refine run_at (i := 21) (v := ?_) rfl (by kernel_rfl) (by rfl) (fun _ _ _ h => h) hHeld (fun w1 hw1 => ?_) ?_
  rotate_left 1
  · skip
    have hcw0 := hw1.cell (HP0.out) (by first | (simp; done) | exact HNS.out | exact HNW.out | (intro hm; have hlt := HSB.out _ hm; (try dsimp only at hlt); omega))
    go_simp
    (try (first | with_reducible rfl | (apply And.intro <;> rfl)))
  simp only [Act.put, List.setIfInBounds_toArray, List.set_cons_zero, List.set_cons_succ]
  refine run_at (i := 22) (v := ?_) rfl (by kernel_rfl) (by rfl) (fun _ _ _ h => h) hHeld (fun w1 hw1 => ?_) ?_
  rotate_left 1
  · skip
    go_simp
    (try (first | with_reducible rfl | (apply And.intro <;> rfl)))
  simp only [Act.put, List.setIfInBounds_toArray, List.set_cons_zero, List.set_cons_succ]
  refine run_at (i := 23) (v := ?_) rfl (by kernel_rfl) (by rfl) (fun _ _ _ h => h) hHeld (fun w1 hw1 => ?_) ?_
  rotate_left 1
  · skip
    have hcw0 := hw1.cell (H37.out) (by first | (simp; done) | exact HNS.out | exact HNW.out | (intro hm; have hlt := HSB.out _ hm; (try dsimp only at hlt); omega))
    go_simp
    (try (first | with_reducible rfl | (apply And.intro <;> rfl)))
  simp only [Act.put, List.setIfInBounds_toArray, List.set_cons_zero, List.set_cons_succ]
  refine run_at (i := 24) (v := ?_) rfl (by kernel_rfl) (by rfl) (fun _ _ _ h => h) hHeld (fun w1 hw1 => ?_) ?_
  rotate_left 1
  · skip
    go_simp
    (try (first | with_reducible rfl | (apply And.intro <;> rfl)))
  simp only [Act.put, List.setIfInBounds_toArray, List.set_cons_zero, List.set_cons_succ]
  refine crow_at (i := 25) rfl (by kernel_rfl) (by rfl) _ _ rfl _ rfl _ (fun w1 hw1 j v hv => hw1.cell ((HCELL0.out) j v hv) (by simp)) (row_stamp.of HSL0.out) (fun _ _ _ h => h) hHeld ?_
  simp only [Act.put, List.setIfInBounds_toArray, List.set_cons_zero, List.set_cons_succ]
  refine row_at (i := 27) rfl (by kernel_rfl) (by rfl) _ _ rfl _ _ rfl _ (fun w1 hw1 => hw1.range (HCF9.out) (by first | (simp; done) | exact HNS.out | exact HNW.out | (intro hm; have hlt := HSB.out _ hm; (try dsimp only at hlt); omega))) (row_conf) (fun _ _ _ h => h) hHeld ?_
  simp only [Act.put, List.setIfInBounds_toArray, List.set_cons_zero, List.set_cons_succ]
  refine run_at (i := 28) (v := ?_) rfl (by kernel_rfl) (by rfl) (fun _ _ _ h => h) hHeld (fun w1 hw1 => ?_) ?_
  rotate_left 1
  · skip
    go_simp
    (try (first | with_reducible rfl | (apply And.intro <;> rfl)))
  simp only [Act.put, List.setIfInBounds_toArray, List.set_cons_zero, List.set_cons_succ]
  refine run_at (i := 29) (v := ?_) rfl (by kernel_rfl) (by rfl) (fun _ _ _ h => h) hHeld (fun w1 hw1 => ?_) ?_
  rotate_left 1
  · skip
    have hcw0 := hw1.cell (HP1.out) (by first | (simp; done) | exact HNS.out | exact HNW.out | (intro hm; have hlt := HSB.out _ hm; (try dsimp only at hlt); omega))
    go_simp
    (try (first | with_reducible rfl | (apply And.intro <;> rfl)))
  simp only [Act.put, List.setIfInBounds_toArray, List.set_cons_zero, List.set_cons_succ]
  refine run_at (i := 30) (v := ?_) rfl (by kernel_rfl) (by rfl) (fun _ _ _ h => h) hHeld (fun w1 hw1 => ?_) ?_
  rotate_left 1
  · skip
    go_simp
    (try (first | with_reducible rfl | (apply And.intro <;> rfl)))
  simp only [Act.put, List.setIfInBounds_toArray, List.set_cons_zero, List.set_cons_succ]
  refine run_at (i := 31) (v := ?_) rfl (by kernel_rfl) (by rfl) (fun _ _ _ h => h) hHeld (fun w1 hw1 => ?_) ?_
  rotate_left 1
  · skip
    have hcw0 := hw1.cell (H37.out) (by first | (simp; done) | exact HNS.out | exact HNW.out | (intro hm; have hlt := HSB.out _ hm; (try dsimp only at hlt); omega))
    go_simp
    (try (first | with_reducible rfl | (apply And.intro <;> rfl)))
  simp only [Act.put, List.setIfInBounds_toArray, List.set_cons_zero, List.set_cons_succ]
  refine run_at (i := 32) (v := ?_) rfl (by kernel_rfl) (by rfl) (fun _ _ _ h => h) hHeld (fun w1 hw1 => ?_) ?_
  rotate_left 1
  · skip
    go_simp
    (try (first | with_reducible rfl | (apply And.intro <;> rfl)))
  simp only [Act.put, List.setIfInBounds_toArray, List.set_cons_zero, List.set_cons_succ]
  refine crow_at (i := 33) rfl (by kernel_rfl) (by rfl) _ _ rfl _ rfl _ (fun w1 hw1 j v hv => hw1.cell ((HCELL0.out) j v hv) (by simp)) (row_stamp.of HSL0.out) (fun _ _ _ h => h) hHeld ?_
  simp only [Act.put, List.setIfInBounds_toArray, List.set_cons_zero, List.set_cons_succ]
  refine call_at (i := 26) (f := ?_) (args := ?_) rfl (by kernel_rfl) (by rfl) ?_ ?_
  rotate_left 2
  · go_simp
    (try (first | with_reducible rfl | (apply And.intro <;> rfl)))
  have hh := rstamp_any (Fn : Int) 3 v0 HV0.out _ Sb gb l9 (HBK.out.keep hHeld (by simp))
  unfold Wst.val at hh
  rw [HR2.out] at hh
  refine hh.mono ?_
  rintro e w2 ⟨rfl, hf2⟩
  refine ⟨_, rfl, hHeld.and hf2 (by simp), fun hHeld => ?_⟩
  clear hf2 hh
  simp only [Act.put, List.setIfInBounds_toArray, List.set_cons_zero, List.set_cons_succ]
  refine call_at (i := 34) (f := ?_) (args := ?_) rfl (by kernel_rfl) (by rfl) ?_ ?_
  rotate_left 2
  · go_simp
    (try (first | with_reducible rfl | (apply And.intro <;> rfl)))
  have hh := refstamp_any (Fn : Int) 3 HFF.out v0 HV0.out _ Sr9 gr l9 (HRB.out.keep hHeld (by simp)) HND.out
  unfold Wst.val at hh
  rw [HR2.out] at hh
  refine hh.mono ?_
  rintro e w2 ⟨rfl, hf2⟩
  refine ⟨_, rfl, hHeld.and hf2 (by simp), fun hHeld => ?_⟩
  clear hf2 hh
  simp only [Act.put, List.setIfInBounds_toArray, List.set_cons_zero, List.set_cons_succ]
  refine run_at (i := 35) (v := ?_) rfl (by kernel_rfl) (by rfl) (fun _ _ _ h => h) hHeld (fun w1 hw1 => ?_) ?_
  rotate_left 1
  · skip
    go_simp
    (try (first | with_reducible rfl | (apply And.intro <;> rfl)))
  simp only [Act.put, List.setIfInBounds_toArray, List.set_cons_zero, List.set_cons_succ]
  refine run_at (i := 36) (v := ?_) rfl (by kernel_rfl) (by rfl) (fun _ _ _ h => h) hHeld (fun w1 hw1 => ?_) ?_
  rotate_left 1
  · skip
    go_simp
    (try (first | with_reducible rfl | (apply And.intro <;> rfl)))
  simp only [Act.put, List.setIfInBounds_toArray, List.set_cons_zero, List.set_cons_succ]
  refine run_at (i := 37) (v := ?_) rfl (by kernel_rfl) (by rfl) (fun _ _ _ h => h) hHeld (fun w1 hw1 => ?_) ?_
  rotate_left 1
  · skip
    go_simp
    (try (first | with_reducible rfl | (apply And.intro <;> rfl)))
  simp only [Act.put, List.setIfInBounds_toArray, List.set_cons_zero, List.set_cons_succ]
  refine call_at (i := 38) (f := ?_) (args := ?_) rfl (by kernel_rfl) (by rfl) ?_ ?_
  rotate_left 2
  · go_simp
    (try (first | with_reducible rfl | (apply And.intro <;> rfl)))
  refine (cewakes_any _).mono ?_
  rintro e w2 ⟨rfl, hf2⟩
  refine ⟨_, rfl, hHeld.and hf2 (by simp), fun hHeld => ?_⟩
  clear hf2
  simp only [Act.put, List.setIfInBounds_toArray, List.set_cons_zero, List.set_cons_succ]
  refine run_at (i := 39) (v := ?_) rfl (by kernel_rfl) (by rfl) (fun _ _ _ h => h) hHeld (fun w1 hw1 => ?_) ?_
  rotate_left 1
  · skip
    go_simp
    (try (first | with_reducible rfl | (apply And.intro <;> rfl)))
  simp only [Act.put, List.setIfInBounds_toArray, List.set_cons_zero, List.set_cons_succ]
  refine run_at (i := 40) (v := ?_) rfl (by kernel_rfl) (by rfl) (fun _ _ _ h => h) hHeld (fun w1 hw1 => ?_) ?_
  rotate_left 1
  · skip
    go_simp
    (try (first | with_reducible rfl | (apply And.intro <;> rfl)))
  simp only [Act.put, List.setIfInBounds_toArray, List.set_cons_zero, List.set_cons_succ]
  refine wpAnyH_done (by kernel_rfl) ?_ _
  go_wp2
  go_ret
  exact ⟨rfl, HFW9.out.and hHeld (by simp)⟩
end Go.Proofs.Ytglphddjinmhoaa
