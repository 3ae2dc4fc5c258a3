/- The walk of CommitLimits. -/
import Derived.Test.YtbajkdlemgnmkaaDoorCm6
import Derived.Deep.CutBlock
namespace Go.Proofs.YtbajkdlemgnmkaaDoor
open Go.RowKit
set_option maxRecDepth 100000

theorem built_commit2 (c s n : Int) :
    Tryd.prog.built 50 [(0, .agg #[.int .i64 c, .int .i64 s]), (2, .int .i64 n)] = some (Cm.cells ⟨c, s, List.replicate 32 0, n, 0, 0⟩).toArray := by
  have hz : zeroCm.size = 37 := rfl
  rw [built_eq, fill_step _ _ 0 0 2 _ _ rfl rfl (by rw [hz]; omega),
    fill_step _ _ 2 34 1 _ _ rfl rfl (by simp [splice, zeroCm, Cm.cells, Value.cells]), Instr.fill]
  congr 2
theorem wpList_built {P : Program} {ops : Array Oper} {rest : List Oper} {o : Oper} {a : Act} {w : World} {Q : Exit → Act → World → Prop} (hgd : o.guard = none) (t : TypeId) (parts : List (Nat × Operand)) (ho : o.op = .build t parts.toArray)
    (vals : List (Nat × Value)) (cells : Array Value) (hb : P.built t vals = some cells) (hv : parts.map (fun p => (p.1, a.eval p.2)) = vals) (h : wpList P ops Q rest (a.put o.dst (.agg cells)) w) : wpList P ops Q (o :: rest) a w :=
  wpList_plain hgd fun _ hK => wp_run (exec_build t parts.toArray ho cells (by
    have e : (parts.toArray.map fun (i, x) => (i, a.eval x)).toList = vals := by rw [← hv]; simp
    rw [e]; exact hb)) (hK _ _ h)
theorem cells_seq (c s n b m s' : Int) (h : List UInt8) : ((Cm.cells ⟨c, s, h, n, b, m⟩).toArray.setIfInBounds 1 (.int .i64 s')) = (Cm.cells ⟨c, s', h, n, b, m⟩).toArray := by
  simp [Cm.cells]
theorem cells_len (c s n b m n' : Int) (h : List UInt8) (hh : h.length = 32) : ((Cm.cells ⟨c, s, h, n, b, m⟩).toArray.setIfInBounds 34 (.int .i64 n')) = (Cm.cells ⟨c, s, h, n', b, m⟩).toArray := by
  simp [Cm.cells, List.set_append, hh]

set_option maxHeartbeats 4000000 in
theorem commitLimits_walk (w : World) (k : Int) (hk1 : -9223372036854775808 ≤ k) (hk2 : k < 9223372036854775808) (c : Int) (hc1 : -9223372036854775808 ≤ c) (hc2 : c < 9223372036854775808)
    (s : Int) (hs1 : -9223372036854775808 ≤ s) (hs2 : s < 9223372036854775808) (n : Int) (hn1 : -9223372036854775808 ≤ n) (hn2 : n < 9223372036854775808) (hK : KW w) :
    Calls Tryd.prog 8 #[.int .i64 k, .int .i64 c, .int .i64 s, .int .i64 n] w fun e w' => e = .returned (.bool true) ∧ Fr [] w w' := by
  have HK := Lib.hid hK
  have HKB := Lib.hid (And.intro hk1 hk2)
  have HCB := Lib.hid (And.intro hc1 hc2)
  have HSB := Lib.hid (And.intro hs1 hs2)
  have HNB := Lib.hid (And.intro hn1 hn2)
  clear hK hk1 hk2 hc1 hc2 hs1 hs2 hn1 hn2
  go_enter Tryd.func8, Tryd.ntmps8
  go_wp2_with fail
  refine (within_pos k 5 HKB.out.1 HKB.out.2 (by omega) (by omega) _).mono ?_
  rintro e w2 ⟨rfl, rfl⟩
  have hk0 : 0 ≤ k % 5 := Int.emod_nonneg _ (by omega)
  have hk1 : k % 5 < 5 := Int.emod_lt_of_pos _ (by omega)
  generalize k % 5 = k5 at *
  go_wp2_with fail
  have HFC : Hid (Fr [] w (w.alloc (Obj.cells #[.int .i64 1, .int .i64 (1 + k5)] 44))) := Lib.hid ((Fr.refl [] w).alloc _)
  have HBC : Hid (Blk (w.alloc (Obj.cells #[.int .i64 1, .int .i64 (1 + k5)] 44)) w.heap.size 44 #[.int .i64 1, .int .i64 (1 + k5)]) := Lib.hid (Blk.new _ _ _)
  generalize w.alloc (Obj.cells #[.int .i64 1, .int .i64 (1 + k5)] 44) = wc at *
  generalize w.heap.size = gc at *
  refine (within_pos c 8 HCB.out.1 HCB.out.2 (by omega) (by omega) _).mono ?_
  rintro e w3 ⟨rfl, rfl⟩
  have hc0 : 0 ≤ c % 8 := Int.emod_nonneg _ (by omega)
  have hc1 : c % 8 < 8 := Int.emod_lt_of_pos _ (by omega)
  generalize c % 8 = c8 at *
  go_wp2_with fail
  refine (within_pos s 4 HSB.out.1 HSB.out.2 (by omega) (by omega) _).mono ?_
  rintro e w4 ⟨rfl, rfl⟩
  have hs0 : 0 ≤ s % 4 := Int.emod_nonneg _ (by omega)
  have hs1 : s % 4 < 4 := Int.emod_lt_of_pos _ (by omega)
  generalize s % 4 = s4 at *
  go_wp2_with fail
  refine (within_pos n 4 HNB.out.1 HNB.out.2 (by omega) (by omega) _).mono ?_
  rintro e w5 ⟨rfl, rfl⟩
  have hn0 : 0 ≤ n % 4 := Int.emod_nonneg _ (by omega)
  have hn1 : n % 4 < 4 := Int.emod_lt_of_pos _ (by omega)
  generalize n % 4 = n4 at *
  have hbl := built_commit2 (c8 - 1) (s4 - 1) (n4 - 1)
  have hZ : (List.replicate 32 (0 : UInt8)).length = 32 := by simp
  generalize List.replicate 32 (0 : UInt8) = Z at *
  have HZ := Lib.hid hZ
  have HBL := Lib.hid hbl
  have hone := (Cm.mk (c8 - 1) (s4 - 1) Z (n4 - 1) 0 0).one
  have hlen := Cm.len (x := Cm.mk (c8 - 1) (s4 - 1) Z (n4 - 1) 0 0) hZ
  have HONE := Lib.hid hone
  have HLEN := Lib.hid hlen
  clear hbl hZ hone hlen
  go_upto_if 29 with (first
    | (refine wpList_built rfl 50 _ rfl _ _ HBL.out rfl ?_)
    | (refine wpList_store_box rfl 50 _ _ rfl zeroCm 50 (Cm.mk (c8 - 1) (s4 - 1) Z (n4 - 1) 0 0).cells rfl rfl (by rw [HLEN.out]; kernel_rfl) (by rw [HLEN.out]; rfl) HONE.out ?_
       intro w3 hb3 hf3
       have HX3 := Lib.hid hb3
       have HB3 := Lib.hid (HBC.out.keep hf3 (by simp))
       have HF3 := Lib.hid (HFC.out.and hf3 (by simp))
       clear hb3 hf3))
  have HGW : Hid (w.heap.size ≤ wc.heap.size) := Lib.hid HFC.out.size
  clear HBL HONE HLEN HBC HFC
  generalize hgx : wc.heap.size = gx at *
  have HGX : Hid (gx ≠ gc) := Lib.hid (fun e => by subst e; exact absurd (HX3.out.ne HB3.out (by decide)) (by simp))
  clear hgx
  go_cut [10] (fun s10 wx => ∃ s', i64In s' ∧ s10 = .pointer (some ⟨gx, 0, none⟩) ∧ Blk wx gx 50 (Cm.mk (c8 - 1) s' Z (n4 - 1) 0 0).cells.toArray ∧ Blk wx gc 44 #[.int .i64 1, .int .i64 (1 + k5)] ∧ Fr [] w wx)
  case first =>
    by_cases hm : s.tmod 5 = 4
    · have hd : (s.tmod 5 == 4) = true := by simp [hm]
      have hc := (Cm.at_blk HX3.out HZ.out).s
      have hz := HX3.out.frozen 1
      clear hm
      go_wp2_with fail
      refine (within_pos s 3 HSB.out.1 HSB.out.2 (by omega) (by omega) _).mono ?_
      rintro e wy ⟨rfl, rfl⟩
      have h0 : 0 ≤ s % 3 := Int.emod_nonneg _ (by omega)
      have h1 : s % 3 < 3 := Int.emod_lt_of_pos _ (by omega)
      generalize s % 3 = s3 at *
      go_wp2_with fail
      go_meet
      have hb := HX3.out.set 1 (.int .i64 (1048575 + s3))
      rw [cells_seq] at hb
      exact ⟨1048575 + s3, ⟨by omega, by omega⟩, rfl, hb, HB3.out.keep ((Fr.refl [gx] w3).setCell _ (by simp) _) (by simpa using fun e => HGX.out e.symm), HF3.out.setCell _ (fun hl => by have := HGW.out; simp only at hl; omega) _⟩
    · have hd : (s.tmod 5 == 4) = false := by simp [hm]
      clear hm
      go_wp2_with fail
      go_meet
      exact ⟨s4 - 1, ⟨by omega, by omega⟩, rfl, HX3.out, HB3.out, HF3.out⟩
  case rest =>
    obtain ⟨s', hs', rfl, hx, hb, hf⟩ := hcut
    have HX4 := Lib.hid hx
    have HB4 := Lib.hid hb
    have HF4 := Lib.hid hf
    clear hx hb hf HX3 HB3 HF3
    go_upto_if 37 with (fail)
    go_cut [10] (fun s10 wx => ∃ n', i64In n' ∧ s10 = .pointer (some ⟨gx, 0, none⟩) ∧ Blk wx gx 50 (Cm.mk (c8 - 1) s' Z n' 0 0).cells.toArray ∧ Blk wx gc 44 #[.int .i64 1, .int .i64 (1 + k5)] ∧ Fr [] w wx)
    case first =>
      by_cases hm : n.tmod 5 = 4
      · have hd : (n.tmod 5 == 4) = true := by simp [hm]
        have hc := (Cm.at_blk HX4.out HZ.out).n
        have hz := HX4.out.frozen 34
        clear hm
        go_wp2_with fail
        refine (within_pos n 3 HNB.out.1 HNB.out.2 (by omega) (by omega) _).mono ?_
        rintro e wy ⟨rfl, rfl⟩
        have h0 : 0 ≤ n % 3 := Int.emod_nonneg _ (by omega)
        have h1 : n % 3 < 3 := Int.emod_lt_of_pos _ (by omega)
        generalize n % 3 = n3 at *
        go_wp2_with fail
        go_meet
        have hb := HX4.out.set 34 (.int .i64 (255 + n3))
        rw [cells_len _ _ _ _ _ _ _ HZ.out] at hb
        exact ⟨255 + n3, ⟨by omega, by omega⟩, rfl, hb, HB4.out.keep ((Fr.refl [gx] _).setCell _ (by simp) _) (by simpa using fun e => HGX.out e.symm), HF4.out.setCell _ (fun hl => by have := HGW.out; simp only at hl; omega) _⟩
      · have hd : (n.tmod 5 == 4) = false := by simp [hm]
        clear hm
        go_wp2_with fail
        go_meet
        exact ⟨n4 - 1, ⟨by omega, by omega⟩, rfl, HX4.out, HB4.out, HF4.out⟩
    case rest =>
      obtain ⟨n', hn', rfl, hx, hb, hf⟩ := hcut
      obtain ⟨wx, hwx⟩ : ∃ wx, wx = wc := ⟨_, rfl⟩
      subst hwx
      have hat := Cm.at_blk hx HZ.out
      have hca := hat.c
      have hcs := hat.s
      have hcn := hat.n
      have hck := hb.cell 1
      have hck0 := hb.cell 0
      simp only [List.getElem?_toArray, List.getElem?_cons_zero, List.getElem?_cons_succ] at hca hcs hcn hck hck0
      have HX5 := Lib.hid hx
      have HF5 := Lib.hid hf
      have HB5 := Lib.hid hb
      have HLEN := Lib.hid (Cm.len (x := Cm.mk (c8 - 1) s' Z n' 0 0) HZ.out)
      have HV := Lib.hid (fun W => valid_any 1 (1 + k5) (Cm.mk (c8 - 1) s' Z n' 0 0) HZ.out W)
      unfold Cm.val at HV
      clear hx hb hf hat HX4 HB4 HF4
      obtain ⟨hs1', hs2'⟩ := hs'
      obtain ⟨hn1', hn2'⟩ := hn'
      obtain ⟨V, hV⟩ : ∃ V, V = validB (1 + k5) ⟨c8 - 1, s', Z, n', 0, 0⟩ := ⟨_, rfl⟩
      rw [← hV] at HV
      generalize hC : (Cm.mk (c8 - 1) s' Z n' 0 0).cells = C at *
      clear hC
      by_cases h1 : 0 ≤ c8 - 1
      case neg =>
        have HR : Hid (V = false) := Lib.hid (by rw [hV]; simp only [validB, decide_eq_false_iff_not]; omega)
        clear hV
        go_wp2_with (first
          | (refine wpList_load_row rfl 50 _ rfl gx rfl 50 _ _ _ HX5.out Tryd.underlying50 rfl (by rw [List.size_toArray, HLEN.out]; kernel_rfl) ?_)
          | (go_at_call 27
             have h := HV.out wx
             rw [HR.out] at h
             refine h.mono ?_
             clear h
             rintro e wy ⟨rfl, hfy⟩
             have HF6 := Lib.hid (HF5.out.and hfy (by simp))
             clear hfy)
          | (go_at_call 28
             refine (cwakes_any _ (HK.out.keep HF6.out (by simp))).mono ?_
             rintro e wz ⟨rfl, hfz⟩
             have HF7 := Lib.hid (HF6.out.and hfz (by simp))
             clear hfz))
        go_ret
        exact ⟨rfl, HF7.out⟩
      by_cases h2 : c8 - 1 < 1 + k5
      case neg =>
        have HR : Hid (V = false) := Lib.hid (by rw [hV]; simp only [validB, decide_eq_false_iff_not]; omega)
        clear hV
        go_wp2_with (first
          | (refine wpList_load_row rfl 50 _ rfl gx rfl 50 _ _ _ HX5.out Tryd.underlying50 rfl (by rw [List.size_toArray, HLEN.out]; kernel_rfl) ?_)
          | (go_at_call 27
             have h := HV.out wx
             rw [HR.out] at h
             refine h.mono ?_
             clear h
             rintro e wy ⟨rfl, hfy⟩
             have HF6 := Lib.hid (HF5.out.and hfy (by simp))
             clear hfy)
          | (go_at_call 28
             refine (cwakes_any _ (HK.out.keep HF6.out (by simp))).mono ?_
             rintro e wz ⟨rfl, hfz⟩
             have HF7 := Lib.hid (HF6.out.and hfz (by simp))
             clear hfz))
        go_ret
        exact ⟨rfl, HF7.out⟩
      by_cases h3 : 1 ≤ s'
      case neg =>
        have HR : Hid (V = false) := Lib.hid (by rw [hV]; simp only [validB, decide_eq_false_iff_not]; omega)
        clear hV
        go_wp2_with (first
          | (refine wpList_load_row rfl 50 _ rfl gx rfl 50 _ _ _ HX5.out Tryd.underlying50 rfl (by rw [List.size_toArray, HLEN.out]; kernel_rfl) ?_)
          | (go_at_call 27
             have h := HV.out wx
             rw [HR.out] at h
             refine h.mono ?_
             clear h
             rintro e wy ⟨rfl, hfy⟩
             have HF6 := Lib.hid (HF5.out.and hfy (by simp))
             clear hfy)
          | (go_at_call 28
             refine (cwakes_any _ (HK.out.keep HF6.out (by simp))).mono ?_
             rintro e wz ⟨rfl, hfz⟩
             have HF7 := Lib.hid (HF6.out.and hfz (by simp))
             clear hfz))
        go_ret
        exact ⟨rfl, HF7.out⟩
      by_cases h4 : s' ≤ 1048576
      case neg =>
        have HR : Hid (V = false) := Lib.hid (by rw [hV]; simp only [validB, decide_eq_false_iff_not]; omega)
        clear hV
        go_wp2_with (first
          | (refine wpList_load_row rfl 50 _ rfl gx rfl 50 _ _ _ HX5.out Tryd.underlying50 rfl (by rw [List.size_toArray, HLEN.out]; kernel_rfl) ?_)
          | (go_at_call 27
             have h := HV.out wx
             rw [HR.out] at h
             refine h.mono ?_
             clear h
             rintro e wy ⟨rfl, hfy⟩
             have HF6 := Lib.hid (HF5.out.and hfy (by simp))
             clear hfy)
          | (go_at_call 28
             refine (cwakes_any _ (HK.out.keep HF6.out (by simp))).mono ?_
             rintro e wz ⟨rfl, hfz⟩
             have HF7 := Lib.hid (HF6.out.and hfz (by simp))
             clear hfz))
        go_ret
        exact ⟨rfl, HF7.out⟩
      by_cases h5 : 0 ≤ n'
      case neg =>
        have HR : Hid (V = false) := Lib.hid (by rw [hV]; simp only [validB, decide_eq_false_iff_not]; omega)
        clear hV
        go_wp2_with (first
          | (refine wpList_load_row rfl 50 _ rfl gx rfl 50 _ _ _ HX5.out Tryd.underlying50 rfl (by rw [List.size_toArray, HLEN.out]; kernel_rfl) ?_)
          | (go_at_call 27
             have h := HV.out wx
             rw [HR.out] at h
             refine h.mono ?_
             clear h
             rintro e wy ⟨rfl, hfy⟩
             have HF6 := Lib.hid (HF5.out.and hfy (by simp))
             clear hfy)
          | (go_at_call 28
             refine (cwakes_any _ (HK.out.keep HF6.out (by simp))).mono ?_
             rintro e wz ⟨rfl, hfz⟩
             have HF7 := Lib.hid (HF6.out.and hfz (by simp))
             clear hfz))
        go_ret
        exact ⟨rfl, HF7.out⟩
      by_cases h6 : n' ≤ 256
      case neg =>
        have HR : Hid (V = false) := Lib.hid (by rw [hV]; simp only [validB, decide_eq_false_iff_not]; omega)
        clear hV
        go_wp2_with (first
          | (refine wpList_load_row rfl 50 _ rfl gx rfl 50 _ _ _ HX5.out Tryd.underlying50 rfl (by rw [List.size_toArray, HLEN.out]; kernel_rfl) ?_)
          | (go_at_call 27
             have h := HV.out wx
             rw [HR.out] at h
             refine h.mono ?_
             clear h
             rintro e wy ⟨rfl, hfy⟩
             have HF6 := Lib.hid (HF5.out.and hfy (by simp))
             clear hfy)
          | (go_at_call 28
             refine (cwakes_any _ (HK.out.keep HF6.out (by simp))).mono ?_
             rintro e wz ⟨rfl, hfz⟩
             have HF7 := Lib.hid (HF6.out.and hfz (by simp))
             clear hfz))
        go_ret
        exact ⟨rfl, HF7.out⟩
      have HR : Hid (V = true) := Lib.hid (by rw [hV]; simp only [validB, decide_eq_true_eq]; omega)
      clear hV
      go_wp2_with (first
        | (refine wpList_load_row rfl 50 _ rfl gx rfl 50 _ _ _ HX5.out Tryd.underlying50 rfl (by rw [List.size_toArray, HLEN.out]; kernel_rfl) ?_)
        | (go_at_call 27
           have h := HV.out wx
           rw [HR.out] at h
           refine h.mono ?_
           clear h
           rintro e wy ⟨rfl, hfy⟩
           have HF6 := Lib.hid (HF5.out.and hfy (by simp))
           clear hfy)
        | (go_at_call 28
           refine (cwakes_any _ (HK.out.keep HF6.out (by simp))).mono ?_
           rintro e wz ⟨rfl, hfz⟩
           have HF7 := Lib.hid (HF6.out.and hfz (by simp))
           clear hfz))
      go_ret
      exact ⟨rfl, HF7.out⟩
end Go.Proofs.YtbajkdlemgnmkaaDoor
