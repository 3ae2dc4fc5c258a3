/- WireLimits: more items than may be, longer payloads, are none. (written by gen_wli.py) -/
import Derived.Test.YtbkhkhippcjdgaaKC4
import Derived.Test.YtbkhkhippcjdgaaBigM
namespace Go.Proofs.Ytbkhkhippcjdgaa
open Go.RowKit
set_option maxRecDepth 100000
theorem wp_append_one2 {P : Program} {o : Oper} {a : Act} {w : World} {K : Act → World → Prop} {Q : Exit → Act → World → Prop} (s x : Operand) (t e : TypeId)
    (ho : o.op = .call { callee := .builtin .append, args := #[s, x], argTypes := #[t, t] }) (ht : P.underlying t = some (.slice e)) (k bytes : Nat) (he : ElTy P e k bytes) (hk : 0 < k)
    (base : Nat) (v : Value) (n : Nat) (xs cs : List Value) (hs : a.eval s = v) (hown : w.ownsRow base e k v n xs) (hbase : base ≤ w.heap.size) (hcl : cs.length = k) (h1 : ∀ u ∈ cs, u.oneCell' = true)
    (g : Nat) (t' : TypeId) (hx : a.eval x = .slice (some ⟨g, 0, none⟩) 1 1) (hb : Blk w g t' cs.toArray) (hn : n < 1000000) (hby : bytes ≤ 1000)
    (h : ∀ A c w', w'.ownsRow base e k (.slice A (n + 1) c) (n + 1) (xs ++ cs) → Fr v.ownBlock.toList w w' → ((Value.slice A (n + 1) c).ownBlock = v.ownBlock ∨ (Value.slice A (n + 1) c).ownBlock = some w.heap.size) → K (a.put o.dst (.slice A (n + 1) c)) w') : o.wp P a w K Q := by
  obtain ⟨i, z, hi, hz, hzs, hsz, hbs⟩ := he
  refine wp_append_lies w s x t ho base e i z k bytes ht hi hz hsz hbs hzs hk v n xs hs hown ⟨g, 0, none⟩ 1 1 cs hx (by omega) (fun j u hu => ?_) h1 (by omega) (by simp only [maxLen]; omega)
    (Nat.le_trans (Nat.mul_le_mul (show n + 1 ≤ 1000000 by omega) hby) (by decide)) hbase _ rfl (fun g' cap w' h2 h3 h4 _ => ?_)
  · have hadd : (⟨g, 0, none⟩ : Addr).add j = ⟨g, j, none⟩ := by unfold Addr.add; split <;> simp_all
    rw [hadd, hb.cell j]
    simpa using hu
  · exact h _ _ w' h2 ((Fr.refl _ w).grown h3 (fun y hy _ => by simp [hy])) (h4.imp (fun e => e.symm) (fun e => by rw [e]; rfl))
theorem till_stepB {P : Program} {l : List Oper} {Q : Exit → Act → World → Prop} {md : Region.Mode} {T : Nat} {A B : World → Prop} {fuel : Nat} {L : Array Bool} {a : Act} {w : World} {i : Nat} {o : Oper} (hi : nthOp l i = some o) (hr : Region.ready md l.toArray L = [i]) (hw : Region.wanted o (yielded l.toArray a.tmps) = true)
    (h : ∀ K : Act → World → Prop, Shut (∀ a w, A w → B w → (A w → B w → wpTill P md l.toArray Q T A B fuel (L.setIfInBounds i true) a w) → K a w) → Oper.wp P o a w K Q) : wpTill P md l.toArray Q T A B (fuel + 1) L a w :=
  till_one hi hr hw (h _ (fun a w hA hB hW => ⟨⟨hA, fun _ => hB⟩, hW hA hB⟩))
theorem wp_builtg {P : Program} {o : Oper} {a : Act} {w : World} {K : Act → World → Prop} {Q : Exit → Act → World → Prop} (t : TypeId) (parts : List (Nat × Operand)) (ho : o.op = .build t parts.toArray)
    (vals : List (Nat × Value)) (cells : Array Value) (hb : P.built t vals = some cells) (hv : parts.map (fun p => (p.1, a.eval p.2)) = vals) (h : K (a.put o.dst (.agg cells)) w) : o.wp P a w K Q :=
  wp_run (exec_build t parts.toArray ho cells (by
    have e : (parts.toArray.map fun (i, x) => (i, a.eval x)).toList = vals := by rw [← hv]; simp
    rw [e]; exact hb)) h
theorem apG {A : Option Addr} {N g : Nat} (h : ∀ q ∈ bk A, N ≤ q) (hg : g < N) : ∀ a, A = some a → ¬ a.block ∈ [g] := fun a ha hm => by
  have h1 := h a.block (by rw [ha]; simp [bk])
  simp at hm
  omega
def zr32 : List UInt8 := List.replicate 32 0
def opI (i : Nat) : Wop := ⟨i, none, 0, 0, [], zr32⟩
def tbI (i : Nat) : Wtb := ⟨i, none, 0, 0, []⟩
def dnI (i : Nat) : Wdn := ⟨0, i, 0, 0⟩
def ups {α : Type} (f : Nat → α) (k : Nat) : List α := (List.range k).map f
theorem ups_len {α : Type} (f : Nat → α) (k : Nat) : (ups f k).length = k := by simp [ups]
theorem ups_succ {α : Type} (f : Nat → α) (k : Nat) : ups f (k + 1) = ups f k ++ [f k] := by simp [ups, List.range_succ]
theorem ups_mem {α : Type} {f : Nat → α} {k : Nat} {v : α} (h : v ∈ ups f k) : ∃ i, i < k ∧ v = f i := by
  obtain ⟨i, hi, rfl⟩ := List.mem_map.1 h
  exact ⟨i, List.mem_range.1 hi, rfl⟩
def b0L : Wba := ⟨1, 2, none, 0, 0, [], none, 0, 0, [], none, 0, 0, []⟩
theorem built_b0 : Try.prog.built 41 [(0, .int .i64 1), (1, .int .u64 2)] = some (Wba.cells b0L).toArray := by kernel_rfl
theorem built_bz : Try.prog.built 41 [] = some (Wba.cells zWba).toArray := by kernel_rfl
theorem built_opI (k : Nat) : Try.prog.built 78 [(0, .int .i64 (k : Int))] = some (Wop.cells (opI k)).toArray := by kernel_rfl
theorem built_tbI (k : Nat) : Try.prog.built 81 [(0, .int .i64 (k : Int))] = some (Wtb.cells (tbI k)).toArray := by kernel_rfl
theorem built_tb0 : Try.prog.built 81 [] = some (Wtb.cells (tbI 0)).toArray := by kernel_rfl
theorem built_dnI (k : Nat) : Try.prog.built 83 [(1, .int .i64 (k : Int))] = some (Wdn.cells (dnI k)).toArray := by kernel_rfl
theorem built_opP (A : Option Addr) (n c : Nat) (l : List UInt8) : Try.prog.built 78 [(1, .slice A n c)] = some (Wop.cells ⟨0, A, n, c, l, zr32⟩).toArray := by kernel_rfl
theorem el_dnL : ElTy Try.prog 83 4 32 := el_deny
theorem nat_in {k : Nat} (h : k ≤ 1000) : i64In (k : Int) := by unfold i64In; omega
theorem nat_U {k : Nat} (h : k ≤ 1000) : Ui (k : Int) := by unfold Ui; omega
theorem opI_ok {k : Nat} (h : k ≤ 1000) (w : World) (S : List Nat) : (opI k).Ok w S := ⟨nat_in h, By.nil _ _, Nat.zero_le _, by simp [opI, bk], by simp [opI, bk], rfl, Nat.zero_le _⟩
theorem tbI_ok {k : Nat} (h : k ≤ 1000) (w : World) (S : List Nat) : (tbI k).Bg w S := ⟨nat_in h, Lst.nil _, Nat.zero_le _, by simp [tbI]⟩
theorem dnI_ok {k : Nat} (h : k ≤ 1000) : (dnI k).Ok := ⟨zero_in, nat_in h, zero_in, zero_in⟩
theorem opI_U {k : Nat} (h : k ≤ 1000) : (opI k).U := ⟨nat_U h, rfl, Nat.zero_le _, rfl⟩
theorem tbI_U {k : Nat} (h : k ≤ 1000) : (tbI k).U := ⟨nat_U h, Nat.zero_le _, by simp [tbI]⟩
theorem dnI_U {k : Nat} (h : k ≤ 1000) : (dnI k).U := ⟨by unfold Ui dnI; simp, nat_U h, by unfold Ui dnI; simp, by unfold Ui dnI; simp⟩
def bOp (A : Option Addr) (k c : Nat) : Wba := ⟨1, 2, none, 0, 0, [], A, k, c, ups opI k, none, 0, 0, []⟩
def bTb (A : Option Addr) (k c : Nat) : Wba := ⟨1, 2, none, 0, 0, [], none, 0, 0, [], A, k, c, ups tbI k⟩
def tDn (A : Option Addr) (k c : Nat) : Wtb := ⟨0, A, k, c, ups dnI k⟩
/-- what the ways meet with -/
structure Made (N : Nat) (b : Wba) : Prop where
  u : N ≤ 100 → b.U
  o : 100 < N → ∀ R, (pBa (b.full ++ R, false)).2 = ([], true)
theorem two_lt : (2 : Nat) < 18446744073709551616 := by decide
theorem one_in : i64In 1 := by unfold i64In; omega
theorem one_U : Ui 1 := by unfold Ui; omega
theorem made_op {N : Nat} (h : N ≤ 1000) (A : Option Addr) (c : Nat) : Made N (bOp A N c) :=
  ⟨fun h1 => ⟨one_U, two_lt, by simp [bOp], by simp [bOp], by show (ups opI N).length ≤ 100; rw [ups_len]; exact h1, fun v hv => by obtain ⟨i, hi, rfl⟩ := ups_mem hv; exact opI_U (by omega), by simp [bOp], by simp [bOp]⟩,
   fun h1 R => pBa_op one_U two_lt rfl R (fun R b => pL_over pOp Wop.full (ups opI N) (by rw [ups_len]; exact h1) (by rw [ups_len]; omega) R b)⟩
theorem made_tb {N : Nat} (h : N ≤ 1000) (A : Option Addr) (c : Nat) : Made N (bTb A N c) :=
  ⟨fun h1 => ⟨one_U, two_lt, by simp [bTb], by simp [bTb], by simp [bTb], by simp [bTb], by show (ups tbI N).length ≤ 100; rw [ups_len]; exact h1, fun v hv => by obtain ⟨i, hi, rfl⟩ := ups_mem hv; exact tbI_U (by omega)⟩,
   fun h1 R => pBa_tb one_U two_lt rfl rfl R (fun R b => pL_over pTb Wtb.full (ups tbI N) (by rw [ups_len]; exact h1) (by rw [ups_len]; omega) R b)⟩
theorem made_dn {N : Nat} (h : N ≤ 1000) (A A2 : Option Addr) (c c2 : Nat) : Made N ⟨1, 2, none, 0, 0, [], none, 0, 0, [], A2, 1, c2, [tDn A N c]⟩ :=
  ⟨fun h1 => ⟨one_U, two_lt, by simp, by simp, by simp, by simp, by simp, fun v hv => by
     rw [List.mem_singleton.1 hv]
     exact ⟨by unfold Ui tDn; simp, by show (ups dnI N).length ≤ 100; rw [ups_len]; exact h1, fun u hu => by obtain ⟨i, hi, rfl⟩ := ups_mem hu; exact dnI_U (by omega)⟩⟩,
   fun h1 R => pBa_tb one_U two_lt rfl rfl R (fun R b => pL_one pTb Wtb.full (tDn A N c) R b (pTb_over (by unfold Ui tDn; simp) (by show 100 < (ups dnI N).length; rw [ups_len]; exact h1) (by show (ups dnI N).length < _; rw [ups_len]; omega) R b))⟩
theorem made_pl {N : Nat} (h : N ≤ 1000) (A A2 : Option Addr) (c c2 : Nat) (l : List UInt8) (hl : l.length = N + 156) : Made N ⟨1, 2, none, 0, 0, [], A2, 1, c2, [⟨0, A, N + 156, c, l, zr32⟩], none, 0, 0, []⟩ :=
  ⟨fun h1 => ⟨one_U, two_lt, by simp, by simp, by simp, fun v hv => by
     rw [List.mem_singleton.1 hv]
     exact ⟨by unfold Ui; simp, hl.symm, by show l.length ≤ 256; omega, rfl⟩, by simp, by simp⟩,
   fun h1 R => pBa_op one_U two_lt rfl R (fun R b => pL_one pOp Wop.full ⟨0, A, N + 156, c, l, zr32⟩ R b (pOp_over (by unfold Ui; simp) hl.symm (by show 256 < l.length; omega) (by show l.length < _; omega) R b))⟩
theorem Wtb.Bg.li {w : World} {S : List Nat} {x : Wtb} (h : x.Bg w S) (hn : x.n ≤ 100) : x.Li w S := ⟨h.i, h.l, hn, h.ap⟩
theorem Wba.Bg.li {w : World} {S : List Nat} {x : Wba} (h : x.Bg w S) (hu : x.U) : x.Li w S :=
  ⟨h.e, h.t, ⟨h.l.1, fun v hv => ⟨(h.l.2.1 v hv).1, (h.l.2.1 v hv).2.li⟩, h.l.2.2⟩, Nat.le_trans h.n (by omega), h.ap, h.l2, by rw [← h.l2.1]; exact hu.n2, h.ap2,
    ⟨h.l3.1, fun v hv => ⟨(h.l3.2.1 v hv).1, (h.l3.2.1 v hv).2.li (by rw [← (h.l3.2.1 v hv).2.l.1]; exact (hu.l3 v hv).n)⟩, h.l3.2.2⟩, by rw [← h.l3.1]; exact hu.n3, h.ap3⟩
theorem pW_bad {α : Type} {z : α} {p : Ps → α × Ps} {s : Ps} (h : (p s).2 = ([], true)) : pW z p s = (z, ([], true)) := by
  unfold pW
  rw [h]
  rfl

set_option maxHeartbeats 8000000 in
theorem wireLimits_walk (w : World) (n : Int) (hn1 : -9223372036854775808 ≤ n) (hn2 : n < 9223372036854775808) (what : Int) (hw1 : -9223372036854775808 ≤ what) (hw2 : what < 9223372036854775808) :
    Calls Try.prog 5 #[.int .i64 n, .int .i64 what] w fun e w' => e = .returned (.bool true) ∧ Fr [] w w' := by
  have HW1 : Hid (-9223372036854775808 ≤ what ∧ what < 9223372036854775808) := Lib.hid ⟨hw1, hw2⟩
  have HN1 : Hid (-9223372036854775808 ≤ n ∧ n < 9223372036854775808) := Lib.hid ⟨hn1, hn2⟩
  clear hw1 hw2 hn1 hn2
  go_enter Try.func5, Try.ntmps5
  go_wp2_with fail
  refine (within_pos n 5 HN1.out.1 HN1.out.2 (by omega) (by omega) _).mono ?_
  rintro e_ w1 ⟨rfl, rfl⟩
  have hr0 : 0 ≤ n % 5 := Int.emod_nonneg _ (by omega)
  have hr5 : n % 5 < 5 := Int.emod_lt_of_pos _ (by omega)
  clear HN1
  generalize n % 5 = r at *
  obtain ⟨N, rfl, hN⟩ : ∃ N : Nat, r = (N : Int) - 98 ∧ 98 ≤ N ∧ N ≤ 102 := ⟨(98 + r).toNat, by omega, by omega, by omega⟩
  clear hr0 hr5
  have HN := Lib.hid hN
  have e1 : IntKind.i64.wrap (98 + ((N : Int) - 98)) = (N : Int) := by rw [show (98 : Int) + ((N : Int) - 98) = N by omega]; exact IntWalk.i64_in _ (by omega)
  go_wp2_with fail
  clear e1
  refine (newWriter_any w).mono ?_
  rintro e_ w2 ⟨rfl, hw, hf⟩
  have HF2 := Lib.hid hf
  have HG : Hid (w.heap.size < w2.heap.size) := Lib.hid (hw.lt _ (by simp))
  obtain ⟨g, hg⟩ : ∃ g, g = w.heap.size := ⟨_, rfl⟩
  rw [← hg] at hw ⊢
  have HGE := Lib.hid hg
  have HW := Lib.hid hw
  clear hw hf hg hN
  have HBO : Hid ((Wba.cells b0L).toArray.all (·.oneCell') = true) := Lib.hid (all_oneCell_toArray (Wba.one _))
  obtain ⟨BL, hBL⟩ : ∃ BL, Wba.cells b0L = BL := ⟨_, rfl⟩
  have HBU : Hid (Try.prog.built 41 [(0, .int .i64 1), (1, .int .u64 2)] = some BL.toArray) := Lib.hid (by rw [← hBL]; exact built_b0)
  have HB5 : Hid (BL.toArray.size = 5) := Lib.hid (by rw [← hBL]; rfl)
  have HBT : Hid ((Try.prog.info? 41).map (·.size) = some BL.toArray.size) := Lib.hid (by rw [HB5.out]; kernel_rfl)
  rw [hBL] at HBO
  have HBL := Lib.hid hBL
  clear hBL
  have HBN : Hid (Blk (w2.alloc (Obj.cells zWba.cells.toArray 41)) w2.heap.size 41 zWba.cells.toArray) := Lib.hid (Blk.new _ _ _)
  go_upto_region 6 with (first
    | (refine wpList_builtg rfl 41 _ rfl _ _ HBU.out rfl ?_)
    | (refine wpList_store_blk rfl 41 _ _ rfl w2.heap.size BL.toArray rfl rfl 41 zWba.cells.toArray HBN.out HBT.out (by rw [HB5.out]; rfl) HBO.out ?_
       intro w3 hb hf
       have HB3 := Lib.hid hb
       have HF3 : Hid (Fr [] w2 w3) := Lib.hid (((Fr.refl [] w2).alloc _).and hf (by simp))
       clear hb hf))
  rw [← HBL.out] at HB3
  have HW3 := Lib.hid (HW.out.keep HF3.out (by simp))
  obtain ⟨gB, hgB⟩ : ∃ gB, gB = w2.heap.size := ⟨_, rfl⟩
  rw [← hgB] at HB3 ⊢
  have HGB : Hid (g < gB ∧ gB < w3.heap.size ∧ w.heap.size ≤ gB) := Lib.hid (by have h1 := HG.out; have h2 := HGE.out; have h3 := HB3.out.lt; omega)
  have HFA : Hid (Fr [] w w3) := Lib.hid (HF2.out.and HF3.out (by simp))
  clear hgB HBN HBU HBT HBO HB5 HBL HG HF2 HF3 HW
  go_wp2_with fail
  refine (within_pos what 4 HW1.out.1 HW1.out.2 (by omega) (by omega) _).mono ?_
  rintro e_ w4 ⟨rfl, rfl⟩
  have hq0 : 0 ≤ what % 4 := Int.emod_nonneg _ (by omega)
  have hq4 : what % 4 < 4 := Int.emod_lt_of_pos _ (by omega)
  clear HW1
  generalize what % 4 = q at *
  go_upto_block 0 with (fail)
  go_cut [35] (fun _ wx => ∃ b : Wba, Hid (Blk wx gB 41 b.cells.toArray) ∧ Hid (b.Bg wx [g]) ∧ Hid (Made N b) ∧ Hid (Fr [gB] w3 wx))
  case first =>
    obtain hq | hq | hq | hq : q = 0 ∨ q = 1 ∨ q = 2 ∨ q = 3 := by omega

    · skip
      have hq0_ : (q == 0) = true := by simp [hq]
      clear hq hq0 hq4
      go_wp2_with fail
      go_loopw [8] (fun i wr => ∃ (k : Nat) (A : Option Addr) (c : Nat), k ≤ N ∧ i = .int .i64 k ∧ Hid (Blk wr gB 41 (bOp A k c).cells.toArray) ∧ Hid (wr.ownsRow 0 78 34 (.slice A k c) k ((ups opI k).flatMap Wop.cells)) ∧ Hid (∀ q ∈ bk A, w3.heap.size ≤ q) ∧ Hid (Fr [gB] w3 wr)) (fun i _ => N - (intOf i).toNat)
      case atStart => exact ⟨0, none, 0, by omega, rfl, HB3, Lib.hid ⟨by simp [ups], .inl ⟨rfl, rfl⟩⟩, Lib.hid (by simp [bk]), Lib.hid (Fr.refl _ _)⟩
      case round =>
        obtain ⟨k, A4, c4, hk, rfl, HBX, HO, HNA, HF⟩ := hrel
        by_cases hlt : k < N
        · have HKN : Hid (k < N) := Lib.hid hlt
          have hk0 : (0 : Int) ≤ k := by omega
          have hkN : (k : Int) < N := by omega
          have hkS : (k : Int) + 1 ≤ 1000 := by have := HN.out; omega
          have HD : Hid ((opI k).cells.length = 34) := Lib.hid rfl
          have HD1 := Lib.hid (Wop.one (opI k))
          have HBUk := Lib.hid (built_opI k)
          have HUS : Hid ((ups opI (k + 1)).flatMap Wop.cells = (ups opI k).flatMap Wop.cells ++ (opI k).cells) := Lib.hid (by rw [ups_succ, List.flatMap_append, List.flatMap_singleton])
          obtain ⟨D, hD⟩ : ∃ D, (opI k).cells = D := ⟨_, rfl⟩
          rw [hD] at HD HD1 HBUk HUS
          clear hD hlt
          have hcx : wr.cell? ⟨gB, 3, none⟩ = some (.slice A4 k c4) := by have h := HBX.out.range 3 (.slice A4 k c4) rfl; simpa using h
          have hGX : gB < wr.heap.size := HBX.out.lt
          have HGX := Lib.hid hGX
          clear hGX
          go_wp2_with (first | (refine wpList_builtg rfl 78 _ rfl _ _ HBUk.out rfl ?_) | (refine wpList_build_one rfl 38 78 _ rfl Try.underlying38 D 64 (by rw [HD.out]; exact el_opn) rfl (by rw [HD.out]; decide) (by rw [HD.out]; decide) ?_) | (at_builtin; refine Stop.mk ?_))
          refine Stop.go ?_
          refine wpList_append_one2 rfl _ _ 38 78 rfl Try.underlying38 34 64 el_opn (by decide) 0 (.slice A4 k c4) k _ D rfl (HO.out.alloc _) (Nat.zero_le _) HD.out HD1.out wr.heap.size 78 rfl (Blk.new _ _ _) (by have := HKN.out; have := HN.out; omega) (by decide) ?_
          intro A9 c9 w9 ho9 hf9 hb9
          clear hcx
          have HF9 : Hid (Fr (bk A4) wr w9) := Lib.hid (by
            have h : Fr (bk A4) (wr.alloc (Obj.cells D.toArray 78)) w9 := by rw [← bk_own A4 k c4]; exact hf9
            exact (((Fr.refl [] wr).alloc _).mono (by simp)).trans h (fun y hy _ => hy))
          have HA9 : Hid (∀ q ∈ bk A9, w3.heap.size ≤ q) := Lib.hid (by
            intro q hq
            rw [← bk_own A9 (k + 1) c9] at hq
            rcases hb9 with h | h
            · rw [h, bk_own] at hq; exact HNA.out q hq
            · rw [h] at hq; simp at hq; have := HF.out.size; omega)
          have hb5 := HBX.out.keep HF9.out (fun hm => by have h1 := HNA.out _ hm; have h2 := HGB.out.2.1; omega)
          have hz5 := hb5.frozen 3
          have hc5 : w9.cell? ⟨gB, 3, none⟩ = some (.slice A4 k c4) := by have h := hb5.range 3 (.slice A4 k c4) rfl; simpa using h
          have HB7 : Hid (Blk (w9.setCell ⟨gB, 3, none⟩ (.slice A9 (k + 1) c9)) gB 41 (bOp A9 (k + 1) c9).cells.toArray) := Lib.hid (by have h := hb5.set 3 (.slice A9 (k + 1) c9); exact h)
          have HF7 : Hid (Fr [gB] w3 (w9.setCell ⟨gB, 3, none⟩ (.slice A9 (k + 1) c9))) := Lib.hid ((HF.out.trans HF9.out (fun q hq hl => by have := HNA.out q hq; omega)).setCell _ (fun _ => by simp) _)
          have HO7 := Lib.hid (own_setCell ho9 ⟨gB, 3, none⟩ (by intro he; rw [bk_mem] at he; have h1 := HA9.out gB he; have h2 := HGB.out.2.1; omega) (.slice A9 (k + 1) c9))
          clear ho9 hf9 hb9 hb5
          go_wp2
          go_roundw
          case rel => exact ⟨k + 1, A9, c9, by have := HKN.out; omega, by go_num, HB7, Lib.hid (by rw [HUS.out]; exact HO7.out), HA9, HF7⟩
          case measure => have := HKN.out; simp [intOf]; omega
        · have hkn : N = k := by omega
          have hnk : ¬ ((k : Int) < N) := by omega
          subst hkn
          clear hk
          go_wp2_with fail
          go_meet
          exact ⟨bOp A4 N c4, HBX, Lib.hid ⟨one_in, two_lt, Lst.nil _, Nat.zero_le _, by simp [bOp], Lst.of_own HO.out (ups_len _ _) (fun v hv => by obtain ⟨i, hi, rfl⟩ := ups_mem hv; exact ⟨rfl, opI_ok (by have := HN.out; omega) _ _⟩), by have := HN.out; show N ≤ 110; omega, (fun _ => apG HNA.out (by have := HGB.out; omega)), Lst.nil _, Nat.zero_le _, by simp [bOp]⟩, Lib.hid (made_op (by have := HN.out; omega) _ _), HF⟩
    · skip
      have hq0_ : (q == 0) = false := by simp [hq]
      have hq1_ : (q == 1) = true := by simp [hq]
      clear hq hq0 hq4
      go_wp2_with fail
      go_loopw [9] (fun i wr => ∃ (k : Nat) (A : Option Addr) (c : Nat), k ≤ N ∧ i = .int .i64 k ∧ Hid (Blk wr gB 41 (bTb A k c).cells.toArray) ∧ Hid (wr.ownsRow 0 81 2 (.slice A k c) k ((ups tbI k).flatMap Wtb.cells)) ∧ Hid (∀ q ∈ bk A, w3.heap.size ≤ q) ∧ Hid (Fr [gB] w3 wr)) (fun i _ => N - (intOf i).toNat)
      case atStart => exact ⟨0, none, 0, by omega, rfl, HB3, Lib.hid ⟨by simp [ups], .inl ⟨rfl, rfl⟩⟩, Lib.hid (by simp [bk]), Lib.hid (Fr.refl _ _)⟩
      case round =>
        obtain ⟨k, A4, c4, hk, rfl, HBX, HO, HNA, HF⟩ := hrel
        by_cases hlt : k < N
        · have HKN : Hid (k < N) := Lib.hid hlt
          have hk0 : (0 : Int) ≤ k := by omega
          have hkN : (k : Int) < N := by omega
          have hkS : (k : Int) + 1 ≤ 1000 := by have := HN.out; omega
          have HD : Hid ((tbI k).cells.length = 2) := Lib.hid rfl
          have HD1 := Lib.hid (Wtb.one (tbI k))
          have HBUk := Lib.hid (built_tbI k)
          have HUS : Hid ((ups tbI (k + 1)).flatMap Wtb.cells = (ups tbI k).flatMap Wtb.cells ++ (tbI k).cells) := Lib.hid (by rw [ups_succ, List.flatMap_append, List.flatMap_singleton])
          obtain ⟨D, hD⟩ : ∃ D, (tbI k).cells = D := ⟨_, rfl⟩
          rw [hD] at HD HD1 HBUk HUS
          clear hD hlt
          have hcx : wr.cell? ⟨gB, 4, none⟩ = some (.slice A4 k c4) := by have h := HBX.out.range 4 (.slice A4 k c4) rfl; simpa using h
          have hGX : gB < wr.heap.size := HBX.out.lt
          have HGX := Lib.hid hGX
          clear hGX
          go_wp2_with (first | (refine wpList_builtg rfl 81 _ rfl _ _ HBUk.out rfl ?_) | (refine wpList_build_one rfl 39 81 _ rfl Try.underlying39 D 32 (by rw [HD.out]; exact el_tomb) rfl (by rw [HD.out]; decide) (by rw [HD.out]; decide) ?_) | (at_builtin; refine Stop.mk ?_))
          refine Stop.go ?_
          refine wpList_append_one2 rfl _ _ 39 81 rfl Try.underlying39 2 32 el_tomb (by decide) 0 (.slice A4 k c4) k _ D rfl (HO.out.alloc _) (Nat.zero_le _) HD.out HD1.out wr.heap.size 81 rfl (Blk.new _ _ _) (by have := HKN.out; have := HN.out; omega) (by decide) ?_
          intro A9 c9 w9 ho9 hf9 hb9
          clear hcx
          have HF9 : Hid (Fr (bk A4) wr w9) := Lib.hid (by
            have h : Fr (bk A4) (wr.alloc (Obj.cells D.toArray 81)) w9 := by rw [← bk_own A4 k c4]; exact hf9
            exact (((Fr.refl [] wr).alloc _).mono (by simp)).trans h (fun y hy _ => hy))
          have HA9 : Hid (∀ q ∈ bk A9, w3.heap.size ≤ q) := Lib.hid (by
            intro q hq
            rw [← bk_own A9 (k + 1) c9] at hq
            rcases hb9 with h | h
            · rw [h, bk_own] at hq; exact HNA.out q hq
            · rw [h] at hq; simp at hq; have := HF.out.size; omega)
          have hb5 := HBX.out.keep HF9.out (fun hm => by have h1 := HNA.out _ hm; have h2 := HGB.out.2.1; omega)
          have hz5 := hb5.frozen 4
          have hc5 : w9.cell? ⟨gB, 4, none⟩ = some (.slice A4 k c4) := by have h := hb5.range 4 (.slice A4 k c4) rfl; simpa using h
          have HB7 : Hid (Blk (w9.setCell ⟨gB, 4, none⟩ (.slice A9 (k + 1) c9)) gB 41 (bTb A9 (k + 1) c9).cells.toArray) := Lib.hid (by have h := hb5.set 4 (.slice A9 (k + 1) c9); exact h)
          have HF7 : Hid (Fr [gB] w3 (w9.setCell ⟨gB, 4, none⟩ (.slice A9 (k + 1) c9))) := Lib.hid ((HF.out.trans HF9.out (fun q hq hl => by have := HNA.out q hq; omega)).setCell _ (fun _ => by simp) _)
          have HO7 := Lib.hid (own_setCell ho9 ⟨gB, 4, none⟩ (by intro he; rw [bk_mem] at he; have h1 := HA9.out gB he; have h2 := HGB.out.2.1; omega) (.slice A9 (k + 1) c9))
          clear ho9 hf9 hb9 hb5
          go_wp2
          go_roundw
          case rel => exact ⟨k + 1, A9, c9, by have := HKN.out; omega, by go_num, HB7, Lib.hid (by rw [HUS.out]; exact HO7.out), HA9, HF7⟩
          case measure => have := HKN.out; simp [intOf]; omega
        · have hkn : N = k := by omega
          have hnk : ¬ ((k : Int) < N) := by omega
          subst hkn
          clear hk
          go_wp2_with fail
          go_meet
          exact ⟨bTb A4 N c4, HBX, Lib.hid ⟨one_in, two_lt, Lst.nil _, Nat.zero_le _, by simp [bTb], Lst.nil _, Nat.zero_le _, by simp [bTb], Lst.of_own HO.out (ups_len _ _) (fun v hv => by obtain ⟨i, hi, rfl⟩ := ups_mem hv; exact ⟨rfl, tbI_ok (by have := HN.out; omega) _ _⟩), by have := HN.out; show N ≤ 110; omega, (fun _ => apG HNA.out (by have := HGB.out; omega))⟩, Lib.hid (made_tb (by have := HN.out; omega) _ _), HF⟩
    · skip
      have hq0_ : (q == 0) = false := by simp [hq]
      have hq1_ : (q == 1) = false := by simp [hq]
      have hq2_ : (q == 2) = true := by simp [hq]
      clear hq hq0 hq4
      have HTB : Hid (Blk (w3.alloc (Obj.cells (tbI 0).cells.toArray 81)) w3.heap.size 81 (tbI 0).cells.toArray) := Lib.hid (Blk.new _ _ _)
      have HT0 : Hid ((tbI 0).cells.toArray.all (·.oneCell') = true) := Lib.hid (all_oneCell_toArray (Wtb.one _))
      go_upto_region 21 with (first
        | (refine wpList_builtg rfl 81 _ rfl _ _ built_tb0 rfl ?_)
        | (refine wpList_store_blk rfl 81 _ _ rfl w3.heap.size (tbI 0).cells.toArray rfl rfl 81 (tbI 0).cells.toArray HTB.out (by kernel_rfl) rfl HT0.out ?_
           intro w5 hb hf
           have HT5 := Lib.hid hb
           have HF5 : Hid (Fr [] w3 w5) := Lib.hid (((Fr.refl [] w3).alloc _).and hf (by simp))
           clear hb hf))
      obtain ⟨gT, hgT⟩ : ∃ gT, gT = w3.heap.size := ⟨_, rfl⟩
      rw [← hgT] at HT5 ⊢
      have HGT : Hid (gB < gT ∧ gT < w5.heap.size ∧ w3.heap.size ≤ gT) := Lib.hid (by have h1 := HGB.out; have h2 := HT5.out.lt; omega)
      clear hgT HTB HT0
      go_wp2_with fail
      go_loopw [11] (fun i wr => ∃ (k : Nat) (A : Option Addr) (c : Nat), k ≤ N ∧ i = .int .i64 k ∧ Hid (Blk wr gT 81 (tDn A k c).cells.toArray) ∧ Hid (wr.ownsRow 0 83 4 (.slice A k c) k ((ups dnI k).flatMap Wdn.cells)) ∧ Hid (∀ q ∈ bk A, w5.heap.size ≤ q) ∧ Hid (Fr [gT] w5 wr)) (fun i _ => N - (intOf i).toNat)
      case atStart => exact ⟨0, none, 0, by omega, rfl, HT5, Lib.hid ⟨by simp [ups], .inl ⟨rfl, rfl⟩⟩, Lib.hid (by simp [bk]), Lib.hid (Fr.refl _ _)⟩
      case round =>
        obtain ⟨k, A4, c4, hk, rfl, HBX, HO, HNA, HF⟩ := hrel
        by_cases hlt : k < N
        · have HKN : Hid (k < N) := Lib.hid hlt
          have hk0 : (0 : Int) ≤ k := by omega
          have hkN : (k : Int) < N := by omega
          have hkS : (k : Int) + 1 ≤ 1000 := by have := HN.out; omega
          have HD : Hid ((dnI k).cells.length = 4) := Lib.hid rfl
          have HD1 := Lib.hid (Wdn.one (dnI k))
          have HBUk := Lib.hid (built_dnI k)
          have HUS : Hid ((ups dnI (k + 1)).flatMap Wdn.cells = (ups dnI k).flatMap Wdn.cells ++ (dnI k).cells) := Lib.hid (by rw [ups_succ, List.flatMap_append, List.flatMap_singleton])
          obtain ⟨D, hD⟩ : ∃ D, (dnI k).cells = D := ⟨_, rfl⟩
          rw [hD] at HD HD1 HBUk HUS
          clear hD hlt
          have hcx : wr.cell? ⟨gT, 1, none⟩ = some (.slice A4 k c4) := by have h := HBX.out.range 1 (.slice A4 k c4) rfl; simpa using h
          have hGX : gT < wr.heap.size := HBX.out.lt
          have HGX := Lib.hid hGX
          clear hGX
          go_wp2_with (first | (refine wpList_builtg rfl 83 _ rfl _ _ HBUk.out rfl ?_) | (refine wpList_build_one rfl 79 83 _ rfl Try.underlying79 D 32 (by rw [HD.out]; exact el_deny) rfl (by rw [HD.out]; decide) (by rw [HD.out]; decide) ?_) | (at_builtin; refine Stop.mk ?_))
          refine Stop.go ?_
          refine wpList_append_one2 rfl _ _ 79 83 rfl Try.underlying79 4 32 el_deny (by decide) 0 (.slice A4 k c4) k _ D rfl (HO.out.alloc _) (Nat.zero_le _) HD.out HD1.out wr.heap.size 83 rfl (Blk.new _ _ _) (by have := HKN.out; have := HN.out; omega) (by decide) ?_
          intro A9 c9 w9 ho9 hf9 hb9
          clear hcx
          have HF9 : Hid (Fr (bk A4) wr w9) := Lib.hid (by
            have h : Fr (bk A4) (wr.alloc (Obj.cells D.toArray 83)) w9 := by rw [← bk_own A4 k c4]; exact hf9
            exact (((Fr.refl [] wr).alloc _).mono (by simp)).trans h (fun y hy _ => hy))
          have HA9 : Hid (∀ q ∈ bk A9, w5.heap.size ≤ q) := Lib.hid (by
            intro q hq
            rw [← bk_own A9 (k + 1) c9] at hq
            rcases hb9 with h | h
            · rw [h, bk_own] at hq; exact HNA.out q hq
            · rw [h] at hq; simp at hq; have := HF.out.size; omega)
          have hb5 := HBX.out.keep HF9.out (fun hm => by have h1 := HNA.out _ hm; have h2 := HGT.out.2.1; omega)
          have hz5 := hb5.frozen 1
          have hc5 : w9.cell? ⟨gT, 1, none⟩ = some (.slice A4 k c4) := by have h := hb5.range 1 (.slice A4 k c4) rfl; simpa using h
          have HB7 : Hid (Blk (w9.setCell ⟨gT, 1, none⟩ (.slice A9 (k + 1) c9)) gT 81 (tDn A9 (k + 1) c9).cells.toArray) := Lib.hid (by have h := hb5.set 1 (.slice A9 (k + 1) c9); exact h)
          have HF7 : Hid (Fr [gT] w5 (w9.setCell ⟨gT, 1, none⟩ (.slice A9 (k + 1) c9))) := Lib.hid ((HF.out.trans HF9.out (fun q hq hl => by have := HNA.out q hq; omega)).setCell _ (fun _ => by simp) _)
          have HO7 := Lib.hid (own_setCell ho9 ⟨gT, 1, none⟩ (by intro he; rw [bk_mem] at he; have h1 := HA9.out gT he; have h2 := HGT.out.2.1; omega) (.slice A9 (k + 1) c9))
          clear ho9 hf9 hb9 hb5
          go_wp2
          go_roundw
          case rel => exact ⟨k + 1, A9, c9, by have := HKN.out; omega, by go_num, HB7, Lib.hid (by rw [HUS.out]; exact HO7.out), HA9, HF7⟩
          case measure => have := HKN.out; simp [intOf]; omega
        · have hkn : N = k := by omega
          have hnk : ¬ ((k : Int) < N) := by omega
          subst hkn
          clear hk
          have HBX4 : Hid (Blk wr gB 41 (Wba.cells b0L).toArray) := Lib.hid ((HB3.out.keep HF5.out (by simp)).keep HF.out (by have := HGT.out; simp; omega))
          have hcx : wr.cell? ⟨gB, 4, none⟩ = some (.slice none 0 0) := by have h := HBX4.out.range 4 (.slice none 0 0) rfl; simpa using h
          have HTR := Lib.hid HBX.out.range
          have HTD : Hid ((tDn A4 N c4).cells.length = 2) := Lib.hid rfl
          have HTD1 := Lib.hid (Wtb.one (tDn A4 N c4))
          have HTW : Hid ((Try.prog.info? 81).map (·.size) = some (tDn A4 N c4).cells.length) := Lib.hid (by rw [HTD.out]; kernel_rfl)
          obtain ⟨D, hD⟩ : ∃ D, (tDn A4 N c4).cells = D := ⟨_, rfl⟩
          rw [hD] at HTR HTD HTD1 HTW HBX
          have HDD := Lib.hid hD
          clear hD
          go_wp2_with (first | (refine wpList_row rfl 81 _ rfl _ _ rfl _ HTR.out (row_tmb.of HTD.out) ?_) | (refine wpList_build_one rfl 39 81 _ rfl Try.underlying39 D 32 (by rw [HTD.out]; exact el_tomb) rfl (by rw [HTD.out]; decide) (by rw [HTD.out]; decide) ?_) | (at_builtin; refine Stop.mk ?_))
          refine Stop.go ?_
          refine wpList_append_one2 rfl _ _ 39 81 rfl Try.underlying39 2 32 el_tomb (by decide) 0 (.slice none 0 0) 0 [] D rfl ⟨by simp, .inl ⟨rfl, rfl⟩⟩ (Nat.zero_le _) HTD.out HTD1.out wr.heap.size 81 rfl (Blk.new _ _ _) (by omega) (by decide) ?_
          intro A9 c9 w9 ho9 hf9 hb9
          clear hcx
          have HF9 : Hid (Fr [] wr w9) := Lib.hid (((Fr.refl [] wr).alloc _).and hf9 (by simp [Value.ownBlock]))
          have HA9 : Hid (∀ q ∈ bk A9, wr.heap.size ≤ q) := Lib.hid (by
            intro q hq
            rw [← bk_own A9 1 c9] at hq
            rcases hb9 with h | h
            · rw [h] at hq; simp [Value.ownBlock] at hq
            · rw [h] at hq; simp at hq; omega)
          have hb5 := HBX4.out.keep HF9.out (by simp)
          have hz5 := hb5.frozen 4
          have hc5 : w9.cell? ⟨gB, 4, none⟩ = some (.slice none 0 0) := by have h := hb5.range 4 (.slice none 0 0) rfl; simpa using h
          have HB7 : Hid (Blk (w9.setCell ⟨gB, 4, none⟩ (.slice A9 1 c9)) gB 41 (Wba.cells ⟨1, 2, none, 0, 0, [], none, 0, 0, [], A9, 1, c9, [tDn A4 N c4]⟩).toArray) := Lib.hid (by have h := hb5.set 4 (.slice A9 1 c9); exact h)
          have HF79 : Hid (Fr [gB] wr (w9.setCell ⟨gB, 4, none⟩ (.slice A9 1 c9))) := Lib.hid ((HF9.out.mono (by simp)).setCell _ (fun _ => by simp) _)
          have HF7 : Hid (Fr [gB] w3 (w9.setCell ⟨gB, 4, none⟩ (.slice A9 1 c9))) := Lib.hid (((HF5.out.mono (T := [gB]) (by simp)).trans HF.out (fun q hq hl => by have := HGT.out; simp at hq; omega)).trans HF79.out (fun q hq _ => hq))
          have HO7 := Lib.hid (own_setCell ho9 ⟨gB, 4, none⟩ (by intro he; rw [bk_mem] at he; have h1 := HA9.out gB he; have h2 := HBX4.out.lt; omega) (.slice A9 1 c9))
          have HO5 := Lib.hid (own_keep HO.out HF79.out (fun q hq hm => by rw [bk_mem] at hq; have h1 := HNA.out q hq; have h2 := HGT.out; simp at hm; omega))
          clear ho9 hf9 hb9 hb5
          go_wp2_with fail
          go_meet
          refine ⟨⟨1, 2, none, 0, 0, [], none, 0, 0, [], A9, 1, c9, [tDn A4 N c4]⟩, HB7, Lib.hid ⟨one_in, two_lt, Lst.nil _, Nat.zero_le _, by simp, Lst.nil _, Nat.zero_le _, by simp, Lst.of_own (by simp [HDD.out]; exact HO7.out) rfl (fun v hv => by
            rw [List.mem_singleton.1 hv]
            exact ⟨rfl, ⟨zero_in, Lst.of_own HO5.out (ups_len _ _) (fun u hu => by obtain ⟨i, hi, rfl⟩ := ups_mem hu; exact ⟨rfl, dnI_ok (by have := HN.out; omega)⟩), by have := HN.out; show N ≤ 110; omega, (fun _ => apG HNA.out (by have h1 := HGT.out; have h2 := HGB.out; omega))⟩⟩), (by show 1 ≤ 110; decide), (fun _ => apG HA9.out (by have h1 := HBX4.out.lt; have h2 := HGB.out; omega))⟩, Lib.hid (made_dn (by have := HN.out; omega) _ _ _ _), HF7⟩
    · skip
      have hq0_ : (q == 0) = false := by simp [hq]
      have hq1_ : (q == 1) = false := by simp [hq]
      have hq2_ : (q == 2) = false := by simp [hq]
      clear hq hq0 hq4
      have e1 : IntKind.i64.wrap ((N : Int) + 256) = (N : Int) + 256 := IntWalk.i64_in _ (by have := HN.out; omega)
      have e2 : IntKind.i64.wrap ((N : Int) + 256 - 100) = (N : Int) + 156 := by rw [show (N : Int) + 256 - 100 = (N : Int) + 156 by omega]; exact IntWalk.i64_in _ (by have := HN.out; omega)
      have hcx : w3.cell? ⟨gB, 3, none⟩ = some (.slice none 0 0) := by have h := HB3.out.range 3 (.slice none 0 0) rfl; simpa using h
      have HCX := Lib.hid hcx
      clear hcx
      go_upto_region 8 with (fail)
      refine wp_region_till 10 (Fr [gB] w3) (Fr [] w3) (by kernel_rfl) (Fr.drew (Fr.refl _ w3)) (Fr.drew (Fr.refl _ w3)) (fun hA hB => ?_)
      generalize w3.drew = wd at *
      refine till_run (i := 2) (v := ?_) rfl (by kernel_rfl) (by rfl) (fun _ _ _ h => h) hA hB (fun w1 hw1 => ?_) ?_
      rotate_left 1
      · skip
        go_simp
        (try (first | with_reducible rfl | (apply And.intro <;> rfl)))
      simp only [Act.put, List.setIfInBounds_toArray, List.set_cons_zero, List.set_cons_succ]
      refine till_run (i := 3) (v := ?_) rfl (by kernel_rfl) (by rfl) (fun _ _ _ h => h) hA hB (fun w1 hw1 => ?_) ?_
      rotate_left 1
      · skip
        go_simp
        (try (first | with_reducible rfl | (apply And.intro <;> rfl)))
      simp only [Act.put, List.setIfInBounds_toArray, List.set_cons_zero, List.set_cons_succ]
      refine till_run (i := 4) (v := ?_) rfl (by kernel_rfl) (by rfl) (fun _ _ _ h => h) hA hB (fun w1 hw1 => ?_) ?_
      rotate_left 1
      · skip
        go_simp
        (try (first | with_reducible rfl | (apply And.intro <;> rfl)))
      simp only [Act.put, List.setIfInBounds_toArray, List.set_cons_zero, List.set_cons_succ]
      clear e1 e2
      refine till_run (i := 0) (v := ?_) rfl (by kernel_rfl) (by rfl) (fun _ _ _ h => h) hA hB (fun w1 hw1 => ?_) ?_
      rotate_left 1
      · skip
        go_simp
        (try (first | with_reducible rfl | (apply And.intro <;> rfl)))
      simp only [Act.put, List.setIfInBounds_toArray, List.set_cons_zero, List.set_cons_succ]
      have HBd := Lib.hid (HB3.out.keep hB (by simp))
      refine till_run (i := 1) (v := ?_) rfl (by kernel_rfl) (by rfl) (fun _ _ _ h => h) hA hB (fun w1 hw1 => ?_) ?_
      rotate_left 1
      · skip
        have hcw0 := hw1.cell (HCX.out) (by first | (simp; done) | exact HNS.out | exact HNW.out | (intro hm; have hlt := HSB.out _ hm; (try dsimp only at hlt); omega))
        go_simp
        (try (first | with_reducible rfl | (apply And.intro <;> rfl)))
      simp only [Act.put, List.setIfInBounds_toArray, List.set_cons_zero, List.set_cons_succ]
      obtain ⟨wm, hmk, hbm, hfm⟩ := make_e (N + 156) (by have := HN.out; omega) wd
      rw [Int.natCast_add] at hmk
      replace hmk : (Instr.makeSlice 42 (.int .i64 ((N : Int) + 156)) (.int .i64 ((N : Int) + 156))).run Try.prog wd = .ok (.slice (some ⟨wd.heap.size, 0, none⟩) (N + 156) (N + 156)) wm := hmk
      have HBm := Lib.hid hbm
      clear hbm
      have HD3 : Hid (w3.heap.size ≤ wd.heap.size) := Lib.hid hB.size
      refine till_stepB (i := 5) rfl (by kernel_rfl) (by rfl) (fun K hK => ?_)
      refine wp_run (v := ?_) (w' := ?_) ?_ ?_
      rotate_left 2
      · have hrun := hmk
        go_simp
        (try (first | with_reducible rfl | (apply And.intro <;> rfl)))
      clear hmk
      refine hK.out _ _ (hA.go hfm (by simp)) (hB.and hfm (by simp)) (fun hA hB => ?_)
      clear hK K
      have HGd : Hid (gB < wd.heap.size ∧ wd.heap.size < wm.heap.size ∧ w3.heap.size ≤ wd.heap.size) := Lib.hid (by have h1 := HGB.out; have h2 := HD3.out; have h3 := HBm.out.lt; omega)
      have HBd := Lib.hid (HBd.out.keep hfm (by simp))
      clear hfm
      obtain ⟨zs, hzs⟩ : ∃ zs, zs = List.replicate (N + 156) (0 : UInt8) := ⟨_, rfl⟩
      rw [← hzs] at HBm
      have HZS : Hid (zs.length = N + 156) := Lib.hid (by rw [hzs]; simp)
      clear hzs
      have HD : Hid ((Wop.cells ⟨0, some ⟨wd.heap.size, 0, none⟩, N + 156, N + 156, zs, zr32⟩).length = 34) := Lib.hid rfl
      have HD1 := Lib.hid (Wop.one ⟨0, some ⟨wd.heap.size, 0, none⟩, N + 156, N + 156, zs, zr32⟩)
      have HBUP := Lib.hid (built_opP (some ⟨wd.heap.size, 0, none⟩) (N + 156) (N + 156) zs)
      obtain ⟨D, hD⟩ : ∃ D, Wop.cells ⟨0, some ⟨wd.heap.size, 0, none⟩, N + 156, N + 156, zs, zr32⟩ = D := ⟨_, rfl⟩
      rw [hD] at HD HD1 HBUP
      have HDD := Lib.hid hD
      clear hD
      simp only [Act.put, List.setIfInBounds_toArray, List.set_cons_zero, List.set_cons_succ]
      refine till_stepB (i := 6) rfl (by kernel_rfl) (by rfl) (fun K hK => ?_)
      refine wp_builtg 78 _ rfl _ _ HBUP.out rfl ?_
      refine hK.out _ _ hA hB (fun hA hB => ?_)
      clear hK K
      simp only [Act.put, List.setIfInBounds_toArray, List.set_cons_zero, List.set_cons_succ]
      refine till_stepB (i := 7) rfl (by kernel_rfl) (by rfl) (fun K hK => ?_)
      refine wp_build_one 38 78 _ rfl Try.underlying38 D 64 (by rw [HD.out]; exact el_opn) rfl (by rw [HD.out]; decide) (by rw [HD.out]; decide) ?_
      refine hK.out _ _ (hA.alloc _) (hB.alloc _) (fun hA hB => ?_)
      clear hK K
      simp only [Act.put, List.setIfInBounds_toArray, List.set_cons_zero, List.set_cons_succ]
      refine till_stepB (i := 8) rfl (by kernel_rfl) (by rfl) (fun K hK => ?_)
      refine wp_append_one2 _ _ 38 78 rfl Try.underlying38 34 64 el_opn (by decide) 0 (.slice none 0 0) 0 [] D rfl ⟨by simp, .inl ⟨rfl, rfl⟩⟩ (Nat.zero_le _) HD.out HD1.out wm.heap.size 78 rfl (Blk.new _ _ _) (by omega) (by decide) ?_
      intro A9 c9 w9 ho9 hf9 hb9
      have hf9' : Fr [] (wm.alloc (Obj.cells D.toArray 78)) w9 := hf9.mono (by simp [Value.ownBlock])
      have HF9 : Hid (Fr [] wm w9) := Lib.hid (((Fr.refl [] wm).alloc _).and hf9' (by simp))
      have HA9 : Hid (∀ q ∈ bk A9, wm.heap.size ≤ q) := Lib.hid (by
      intro q hq
      rw [← bk_own A9 1 c9] at hq
      rcases hb9 with h | h
      · rw [h] at hq; simp [Value.ownBlock] at hq
      · rw [h] at hq; simp at hq; omega)
      have HO9 := Lib.hid ho9
      refine hK.out _ _ (hA.go hf9' (by simp)) (hB.and hf9' (by simp)) (fun hA hB => ?_)
      clear hK K ho9 hf9 hf9' hb9
      have HBd := Lib.hid (HBd.out.keep HF9.out (by simp))
      have HBm := Lib.hid (HBm.out.keep HF9.out (by simp))
      simp only [Act.put, List.setIfInBounds_toArray, List.set_cons_zero, List.set_cons_succ]
      refine till_stepB (i := 9) rfl (by kernel_rfl) (by rfl) (fun K hK => ?_)
      refine wp_run (v := ?_) (w' := ?_) ?_ ?_
      rotate_left 2
      · go_simp
        (try (first | with_reducible rfl | (apply And.intro <;> rfl)))
      refine hK.out _ _ hA hB (fun hA hB => ?_)
      clear hK K
      simp only [Act.put, List.setIfInBounds_toArray, List.set_cons_zero, List.set_cons_succ]
      refine till_step (i := 10) rfl (by kernel_rfl) (by kernel_rfl) (by rfl) (fun K hK => ?_)
      refine wp_store_at 38 _ _ rfl gB 3 (.slice A9 1 c9) rfl rfl rfl 41 _ HBd.out (by decide) (by kernel_rfl) ?_
      have hb7 : Blk (w9.setCells gB 3 [.slice A9 1 c9]) gB 41 (Wba.cells ⟨1, 2, none, 0, 0, [], A9, 1, c9, [⟨0, some ⟨wd.heap.size, 0, none⟩, N + 156, N + 156, zs, zr32⟩], none, 0, 0, []⟩).toArray := Blk.mid_at [.slice A9 1 c9] [.slice none 0 0] [.int .i64 1, .int .u64 2, .slice none 0 0] [.slice none 0 0] 3 rfl rfl _ _ rfl rfl HBd.out
      have HB7 := Lib.hid hb7
      have HF7 : Hid (Fr [gB] w9 (w9.setCells gB 3 [.slice A9 1 c9])) := Lib.hid (Fr.setCells (fun _ => by simp) _ _ _ (Fr.refl _ _))
      refine hK.out _ _ (hA.trans HF7.out (fun q hq _ => hq)) (fun hA => ?_)
      clear hK K hb7
      generalize w9.setCells gB 3 [.slice A9 1 c9] = w10 at *
      simp only [Act.put, List.setIfInBounds_toArray, List.set_cons_zero, List.set_cons_succ]
      refine till_done (by kernel_rfl) ?_ _
      have HBy : Hid (By w10 (some ⟨wd.heap.size, 0, none⟩) (N + 156) zs) := Lib.hid (by
      have h := (By.blk zs HBm.out rfl).keep HF7.out (fun a ha hm => by injection ha with ha; have h1 := HGd.out; rw [← ha] at hm; simp at hm; omega)
      rw [HZS.out] at h
      exact h)
      have HO7 := Lib.hid (own_keep HO9.out HF7.out (fun q hq hm => by rw [bk_mem] at hq; have h1 := HA9.out q hq; have h2 := HGd.out; simp at hm; omega))
      have HFF := Lib.hid hA
      have HS10 : Hid (wd.heap.size < w10.heap.size) := Lib.hid (by have h1 := HF7.out.size; have h2 := HF9.out.size; have h3 := HGd.out; omega)
      clear hA
      go_wp2_with fail
      go_meet
      refine ⟨⟨1, 2, none, 0, 0, [], A9, 1, c9, [⟨0, some ⟨wd.heap.size, 0, none⟩, N + 156, N + 156, zs, zr32⟩], none, 0, 0, []⟩, HB7, Lib.hid ⟨one_in, two_lt, Lst.nil _, Nat.zero_le _, by simp, Lst.of_own (by simp [HDD.out]; exact HO7.out) rfl (fun v hv => by
      rw [List.mem_singleton.1 hv]
      exact ⟨rfl, ⟨zero_in, HBy.out, by have := HN.out; show N + 156 ≤ 260; omega, fun q hq hm => by have h1 := HGd.out; have h2 := HGB.out; simp [bk] at hq; simp at hm; omega, fun q hq => by simp [bk] at hq; rw [hq]; exact HS10.out, rfl, Nat.le_refl _⟩⟩), (by show 1 ≤ 110; decide), (fun _ => apG HA9.out (by have h1 := HGd.out; have h2 := HGB.out; omega)), Lst.nil _, Nat.zero_le _, by simp⟩, Lib.hid (made_pl (by have := HN.out; omega) _ _ _ _ zs HZS.out), HFF⟩
  case rest =>
    obtain ⟨b, HX, HBG, HMD, HF⟩ := hcut
    rename World => wx
    clear hq0 hq4 HB3
    have HWX := Lib.hid (HW3.out.keep HF.out (by have := HGB.out; simp; omega))
    have HFX : Hid (Fr [] w wx) := Lib.hid (HFA.out.trans HF.out (fun q hq hl => by have := HGB.out; simp at hq; omega))
    have HGX : Hid (w.heap.size ≤ g) := Lib.hid (by rw [HGE.out]; exact Nat.le_refl _)
    have HGXB : Hid (g < wx.heap.size) := Lib.hid (by have h1 := HGB.out; have h2 := HX.out.lt; omega)
    clear HW3 HFA HF
    obtain ⟨CL, hCL⟩ : ∃ CL, b.cells = CL := ⟨_, rfl⟩
    have HC5 : Hid (CL.length = 5) := Lib.hid (by rw [← hCL]; rfl)
    have HCL := Lib.hid hCL
    rw [hCL] at HX
    clear hCL
    go_wp2_with (refine wpList_row rfl 41 _ rfl _ _ rfl _ HX.out.range (row_bat.of HC5.out) ?_)
    refine (bPutBatch_any b CL HCL.out HC5.out wx [g] g [] HWX.out (by decide) HBG.out).mono ?_
    rintro e_ w5 ⟨rfl, S1, hw, hf, hs⟩
    rw [List.nil_append] at hw
    have HW5 := Lib.hid hw
    have HBG5 : Hid (b.Bg w5 []) := Lib.hid (HBG.out.keep hf (by simp))
    have HX5 := Lib.hid (HX.out.keep hf (by have := HGB.out; simp; omega))
    have HF5 : Hid (Fr [] w w5) := Lib.hid (HFX.out.trans hf (fun q hq hl => by have := HGX.out; simp at hq; omega))
    have HFL : Hid (b.full.length ≤ 1300000) := Lib.hid HBG5.out.full_len
    clear hw hf hs HX HBG HWX HFX
    go_wp2_with fail
    refine (bytes_any w5 S1 g b.full HW5.out (by have := HFL.out; omega)).mono ?_
    rintro e_ w6 ⟨A0, c0, rfl, hn⟩
    have HY6 := Lib.hid hn.by
    have HF6 : Hid (Fr [] w5 w6) := Lib.hid hn.2.1
    clear hn
    go_wp2_with fail
    refine (newReader_any A0 _ c0 b.full w6 HY6.out (by have := HFL.out; omega)).mono ?_
    rintro e_ w7 ⟨rr, F, rfl, hrd, hf, hrg, hF⟩
    have HF7 : Hid (Fr [] w5 w7) := Lib.hid (HF6.out.and hf (by simp))
    have HR7 : Hid (Rs w7 F rr (b.full, false)) := Lib.hid ⟨hrd, by have := HFL.out; show b.full.length ≤ _; omega, fun k hk => (hF k hk).2⟩
    have HRG : Hid (w5.heap.size ≤ rr) := Lib.hid (by have h1 := HF6.out.size; omega)
    clear hrd hf hrg hF
    go_wp2_with fail
    refine (wireBatch_any w7 F rr _ HR7.out).mono ?_
    rintro e_ w8 ⟨v, rfl, hc, hok, h1, h2⟩
    have HC := Lib.hid hc
    have HR8 := Lib.hid h1
    have HF8 : Hid (Fr [] w5 w8) := Lib.hid (HF7.out.and h2 (by intro x hx; have := HRG.out; simp at hx; omega))
    have HV8 := Lib.hid (hok [] (by simp))
    clear hc hok h1 h2
    have HVL : Hid (v.cells.length = 5) := Lib.hid rfl
    have HVO : Hid (v.cells.toArray.all (·.oneCell') = true) := Lib.hid (all_oneCell_toArray (Wba.one _))
    obtain ⟨VL, hVL⟩ : ∃ VL, v.cells = VL := ⟨_, rfl⟩
    rw [hVL] at HVL HVO ⊢
    have HVC := Lib.hid hVL
    clear hVL
    have HVT : Hid ((Try.prog.info? 41).map (·.size) = some VL.toArray.size) := Lib.hid (by rw [List.size_toArray, HVL.out]; kernel_rfl)
    have HBN : Hid (Blk (w8.alloc (Obj.cells zWba.cells.toArray 41)) w8.heap.size 41 zWba.cells.toArray) := Lib.hid (Blk.new _ _ _)
    go_upto_region 31 with (first
    | (refine wpList_store_blk rfl 41 _ _ rfl w8.heap.size VL.toArray rfl rfl 41 zWba.cells.toArray HBN.out HVT.out (by simp only [List.size_toArray]; rw [HVL.out]; rfl) HVO.out ?_
       intro w9 hb hf
       have HB9 := Lib.hid hb
       have HF89 : Hid (Fr [] w8 w9) := Lib.hid (((Fr.refl [] w8).alloc _).and hf (by simp))
       clear hb hf))
    have HF9 : Hid (Fr [] w5 w9) := Lib.hid (HF8.out.and HF89.out (by simp))
    have HX9 := Lib.hid (HX5.out.keep HF9.out (by simp))
    have HV9 := Lib.hid (HV8.out.keep (S' := []) HF89.out (by simp))
    have HBG9 := Lib.hid (HBG5.out.keep (S' := []) HF9.out (by simp))
    have HR9 := Lib.hid (HR8.out.fr HF89.out (by simp) (by simp))
    have HFW : Hid (Fr [] w w9) := Lib.hid (HF5.out.and HF9.out (by simp))
    clear HF5 HF6 HF7 HF8 HF89 HF9 HX5 HV8 HBG5 HR7 HR8 HBN HVT HVO HY6 HW5 HRG
    have HFN : Hid (b.full ++ [] = b.full) := Lib.hid (by simp)
    by_cases h100 : N ≤ 100
    · have HU := Lib.hid (HMD.out.u h100)
      have e := pW_ok (z := zWba.con) (pBa_enc HU.out [] false)
      rw [HFN.out] at e
      rw [e] at HC HR9
      clear e
      have HCC : Hid (v.con = b.con) := Lib.hid HC.out
      have HRR : Hid (Rs w9 F rr ([], false)) := Lib.hid HR9.out
      have hd : decide ((N : Int) ≤ 100) = true := by simp; omega
      have hd2 : decide (N ≤ 100) = true := by simp; omega
      have hd3 : (N : Int) ≤ 100 := by omega
      go_wp2_with fail
      refine (ok_any w9 rr F [] false HRR.out.rd).mono ?_
      rintro e_ wq ⟨rfl, rfl⟩
      go_wp2_with (first
    | (refine wpList_row rfl 41 _ rfl _ _ rfl _ HB9.out.range (row_bat.of HVL.out) ?_)
    | (refine wpList_row rfl 41 _ rfl _ _ rfl _ HX9.out.range (row_bat.of HC5.out) ?_))
      refine (batch_eq v b w9 HV9.out (HBG9.out.li HU.out) HCC.out _ _ HVC.out HCL.out).mono ?_
      rintro e_ w10 ⟨rfl, hf⟩
      have HRR := Lib.hid (HRR.out.fr hf (by simp) (by simp))
      have HFW := Lib.hid (HFW.out.and hf (by simp))
      clear hf
      go_wp2_with fail
      refine (left_any w10 rr F [] false HRR.out.rd).mono ?_
      rintro e_ wq ⟨rfl, rfl⟩
      go_wp2_with fail
      refine (wwakes_any _).mono ?_
      rintro e_ wv ⟨rfl, hfv⟩
      have HFA := Lib.hid (HFW.out.and hfv (by simp))
      clear hfv
      go_wp2
      go_ret
      exact ⟨rfl, HFA.out⟩
    · have e := pW_bad (z := zWba.con) (HMD.out.o (by omega) [])
      rw [HFN.out] at e
      rw [e] at HC HR9
      clear e
      have HCC : Hid (v.con = zWba.con) := Lib.hid HC.out
      have HRR : Hid (Rs w9 F rr ([], true)) := Lib.hid HR9.out
      have hd : decide ((N : Int) ≤ 100) = false := by simp; omega
      have hd2 : decide (N ≤ 100) = false := by simp; omega
      have hd3 : ¬ ((N : Int) ≤ 100) := by omega
      go_wp2_with fail
      refine (ok_any w9 rr F [] true HRR.out.rd).mono ?_
      rintro e_ wq ⟨rfl, rfl⟩
      go_wp2_with (first
    | (refine wpList_row rfl 41 _ rfl _ _ rfl _ HB9.out.range (row_bat.of HVL.out) ?_)
    | (refine wpList_builtg rfl 41 _ rfl _ _ built_bz rfl ?_))
      refine (batch_eq v zWba w9 HV9.out (zWba_ok _ _) HCC.out _ _ HVC.out rfl).mono ?_
      rintro e_ w10 ⟨rfl, hf⟩
      have HFW := Lib.hid (HFW.out.and hf (by simp))
      clear hf
      go_wp2_with fail
      refine (wwakes_any _).mono ?_
      rintro e_ wv ⟨rfl, hfv⟩
      have HFA := Lib.hid (HFW.out.and hfv (by simp))
      clear hfv
      go_wp2
      go_ret
      exact ⟨rfl, HFA.out⟩
end Go.Proofs.Ytbkhkhippcjdgaa
