/- Package part: what its readers take off bytes. (written by gen_rp.py) -/
import Derived.Test.YtbkhkhippcjdgaaRead
import Derived.Test.YtbkhkhippcjdgaaPutC
import Derived.Test.YtbkhkhippcjdgaaCm5
import Derived.Test.YtbkhkhippcjdgaaReg2
namespace Go.Proofs.Ytbkhkhippcjdgaa
open Go.RowKit
set_option maxRecDepth 100000
/-- what is left for a reader, and whether it has failed -/
abbrev Ps := List UInt8 × Bool
def pI (s : Ps) : Int × Ps := ((inN s.1 1099511627776 : Nat), (inL s.1 1099511627776, inB s.1 1099511627776 s.2))
def pC (s : Ps) : Nat × Ps := (inN s.1 100, (inL s.1 100, inB s.1 100 s.2))
def pN (s : Ps) : Nat × Ps := (rdN s.1, (rdL s.1, rdB s.1 s.2))
def pH (s : Ps) : List UInt8 × Ps := (hashOf s.1, (tookL s.1, tookB s.1 s.2))
def pR (s : Ps) : List UInt8 × Ps := (rwV s.1 256, (rwL s.1 256, rwB s.1 256 s.2))
def p2 (s : Ps) : (Int × Int) × Ps := (((pI s).1, (pI (pI s).2).1), (pI (pI s).2).2)
structure Rs (w : World) (F : List Nat) (g : Nat) (s : Ps) : Prop where
  rd : Rd w g F s.1 s.2
  len : s.1.length ≤ 1073741824
  lt : ∀ k ∈ F, k < w.heap.size
theorem Rs.fr {w w' : World} {F T : List Nat} {g : Nat} {s : Ps} (h : Rs w F g s) (hf : Fr T w w') (hg : ¬ g ∈ T) (hF : ∀ k ∈ F, ¬ k ∈ T) : Rs w' F g s := ⟨h.rd.keep hf hg hF, h.len, fun k hk => Nat.lt_of_lt_of_le (h.lt k hk) hf.size⟩
theorem Rs.gt {w : World} {F : List Nat} {g : Nat} {s : Ps} (h : Rs w F g s) : g < w.heap.size := h.rd.lt
theorem Fr.unbox {g q : Nat} {w wa w1 w2 : World} (h0 : Fr [] w wa) (h1 : Fr [g] wa w1) (h2 : Fr [q] w1 w2) (hq : w.heap.size ≤ q) : Fr [g] w w2 :=
  ((h0.mono (T := [g]) (by simp)).trans h1 (fun x hx _ => hx)).trans h2 (fun x hx hl => by simp at hx; omega)
theorem inL_le (R : List UInt8) (m : Int) : (inL R m).length ≤ R.length := by
  unfold inL
  cases dec R with
  | none => simp
  | some p => simp only; split <;> simp
theorem rdL_le (R : List UInt8) : (rdL R).length ≤ R.length := by
  unfold rdL
  cases dec R with
  | none => simp
  | some p => simp
theorem tookL_le (R : List UInt8) : (tookL R).length ≤ R.length := by unfold tookL; split <;> simp
theorem rwL_le (R : List UInt8) (m : Int) : (rwL R m).length ≤ R.length := by
  unfold rwL
  cases dec R with
  | none => simp
  | some p => simp only; split <;> simp
theorem inN_le (R : List UInt8) {m : Int} (hm : 0 ≤ m) : ((inN R m : Nat) : Int) ≤ m := by
  unfold inN
  cases dec R with
  | none => simpa using hm
  | some p =>
    simp only
    split
    · assumption
    · simpa using hm
theorem rdN_lt (R : List UInt8) : rdN R < 18446744073709551616 := by
  unfold rdN
  cases h : dec R with
  | none => simp
  | some p => exact (dec_some (n := p.1) (s := p.2) h).2.2.2
theorem pI_in (s : Ps) : i64In (pI s).1 := by
  have h := inN_le s.1 (m := 1099511627776) (by omega)
  unfold pI i64In
  simp only
  omega
section
variable {w : World} {F : List Nat} {g : Nat} {s : Ps}
theorem rint_f (m : Int) (hm2 : m < 9223372036854775808) (hr : Rs w F g s) :
    Calls Try.prog 117 #[.pointer (some ⟨g, 0, none⟩), .int .i64 m] w fun e w' => e = .returned (.int .i64 (inN s.1 m)) ∧ Rs w' F g (inL s.1 m, inB s.1 m s.2) ∧ Fr [g] w w' := by
  have hl := inL_le s.1 m
  obtain ⟨R, bad⟩ := s
  have mk : ∀ {w' : World} {l : List UInt8} {b : Bool}, l.length ≤ R.length → Rd w' g F l b → Fr [g] w w' → Rs w' F g (l, b) := fun h1 h2 h3 => ⟨h2, Nat.le_trans h1 hr.len, fun k hk => Nat.lt_of_lt_of_le (hr.lt k hk) h3.size⟩
  unfold inN inL inB at *
  simp only at hl ⊢
  cases hd : dec R with
  | none =>
    rw [hd] at hl
    exact (rint_bad w g F R bad hr.rd hr.len m (intBad_none hd) hm2).mono fun _ _ ⟨k1, k2, k3⟩ => ⟨k1, mk (by simp) k2 k3, k3⟩
  | some p =>
    rw [hd] at hl
    by_cases hv : (p.1 : Int) ≤ m
    · simp only [if_pos hv] at hl ⊢
      exact (rint_ok w g F R bad hr.rd hr.len p.1 p.2 hd m hv hm2).mono fun _ _ ⟨k1, k2, k3⟩ => ⟨k1, mk hl k2 k3, k3⟩
    · simp only [if_neg hv] at hl ⊢
      exact (rint_bad w g F R bad hr.rd hr.len m (intBad_lt hd (by omega)) hm2).mono fun _ _ ⟨k1, k2, k3⟩ => ⟨k1, mk (by simp) k2 k3, k3⟩
theorem getInt_any (hr : Rs w F g s) : Calls Try.prog 87 #[.pointer (some ⟨g, 0, none⟩)] w fun e w' => e = .returned (.int .i64 (pI s).1) ∧ Rs w' F g (pI s).2 ∧ Fr [g] w w' := by
  have HR := Lib.hid hr
  clear hr
  go_enter Try.func87, Try.ntmps87
  go_wp2_with fail
  refine (rint_f 1099511627776 (by omega) HR.out).mono ?_
  rintro e w1 ⟨rfl, h1, h2⟩
  have H1 : Hid (Rs w1 F g (pI s).2) := Lib.hid h1
  have H2 := Lib.hid h2
  clear h1 h2
  go_wp2
  go_ret
  exact ⟨rfl, H1.out, H2.out⟩
theorem getNum_any (hr : Rs w F g s) : Calls Try.prog 88 #[.pointer (some ⟨g, 0, none⟩)] w fun e w' => e = .returned (.int .u64 ((pN s).1 : Nat)) ∧ Rs w' F g (pN s).2 ∧ Fr [g] w w' := by
  have hl := rdL_le s.1
  obtain ⟨R, bad⟩ := s
  unfold pN rdN rdL rdB at *
  simp only at hl ⊢
  cases hd : dec R with
  | none => exact (rnum_bad w g F R bad hr.rd hr.len hd).mono fun _ _ ⟨k1, k2, k3⟩ => ⟨k1, ⟨k2, by simp, fun k hk => Nat.lt_of_lt_of_le (hr.lt k hk) k3.size⟩, k3⟩
  | some p => exact (rnum_ok w g F R bad hr.rd hr.len p.1 p.2 hd).mono fun _ _ ⟨k1, k2, k3⟩ => ⟨k1, ⟨k2, Nat.le_trans (by simp) hr.len, fun k hk => Nat.lt_of_lt_of_le (hr.lt k hk) k3.size⟩, k3⟩
theorem getHash_any (hr : Rs w F g s) : Calls Try.prog 116 #[.pointer (some ⟨g, 0, none⟩)] w fun e w' => e = .returned (.agg (((pH s).1).map by8).toArray) ∧ Rs w' F g (pH s).2 ∧ Fr [g] w w' :=
  (rhash_any w g F s.1 s.2 hr.rd hr.lt hr.len).mono fun _ _ ⟨h1, h2, h3⟩ => ⟨h1, ⟨h2, Nat.le_trans (tookL_le _) hr.len, fun k hk => Nat.lt_of_lt_of_le (hr.lt k hk) h3.size⟩, h3⟩
theorem getCount_any (hr : Rs w F g s) : Calls Try.prog 117 #[.pointer (some ⟨g, 0, none⟩), .int .i64 100] w fun e w' => e = .returned (.int .i64 ((pC s).1 : Nat)) ∧ Rs w' F g (pC s).2 ∧ Fr [g] w w' :=
  rint_f 100 (by omega) hr
end
theorem pH_len (s : Ps) : (pH s).1.length = 32 := hashOf_len s.1
theorem pC_le (s : Ps) : (pC s).1 ≤ 100 := by have h := inN_le s.1 (m := 100) (by omega); unfold pC; simp only; omega
theorem pN_lt (s : Ps) : (pN s).1 < 18446744073709551616 := rdN_lt s.1
def zCm : Array Value := (Wcm.cells ⟨0, 0, List.replicate 32 0, 0, 0, 0⟩).toArray
def zSt : Array Value := (Wst.cells ⟨0, 0, 0, List.replicate 32 0, 0, 0, 0⟩).toArray
theorem built_cmE (parts : List (Nat × Value)) : Try.prog.built 29 parts = Instr.fill ([(0, 2), (2, 32), (34, 1), (35, 2)].toArray[·]?) zCm parts := by kernel_rfl
theorem built_cmR (c s n b m : Int) (h : List UInt8) (hh : h.length = 32) :
    Try.prog.built 29 [(0, .agg #[.int .i64 c, .int .i64 s]), (1, .agg (h.map by8).toArray), (2, .int .i64 n), (3, .agg #[.int .i64 b, .int .i64 m])] = some (Wcm.cells ⟨c, s, h, n, b, m⟩).toArray := by
  have hz : zCm.size = 37 := rfl
  rw [built_cmE, fill_step _ _ 0 0 2 _ _ rfl rfl (by rw [hz]; omega), fill_step _ _ 1 2 32 _ _ rfl (by simp [Value.cells, hh]) (by simp [splice, zCm, Wcm.cells, Value.cells]),
    fill_step _ _ 2 34 1 _ _ rfl rfl (by simp [splice, zCm, Wcm.cells, Value.cells, hh]), fill_step _ _ 3 35 2 _ _ rfl rfl (by simp [splice, zCm, Wcm.cells, Value.cells, hh]), Instr.fill]
  congr 2
  have tk : ∀ n, 32 ≤ n → (h.map by8).take n = h.map by8 := fun n hn => List.take_of_length_le (by simp [hh]; omega)
  have dk : ∀ n, 32 ≤ n → (h.map by8).drop n = [] := fun n hn => List.drop_of_length_le (by simp [hh]; omega)
  simp [splice, zCm, Wcm.cells, Value.cells, hh, List.drop_append, List.take_append, tk, dk]
theorem built_stE (parts : List (Nat × Value)) : Try.prog.built 90 parts = Instr.fill ([(0, 1), (1, 2), (3, 32), (35, 1), (36, 2)].toArray[·]?) zSt parts := by kernel_rfl
theorem built_stR (r c s : Int) (t : Nat) (b m : Int) (h : List UInt8) (hh : h.length = 32) :
    Try.prog.built 90 [(0, .int .i64 r), (1, .agg #[.int .i64 c, .int .i64 s]), (2, .agg (h.map by8).toArray), (3, .int .u64 (t : Int)), (4, .agg #[.int .i64 b, .int .i64 m])] = some (Wst.cells ⟨r, c, s, h, t, b, m⟩).toArray := by
  have hz : zSt.size = 38 := rfl
  rw [built_stE, fill_step _ _ 0 0 1 _ _ rfl rfl (by rw [hz]; omega), fill_step _ _ 1 1 2 _ _ rfl rfl (by simp [splice, zSt, Wst.cells, Value.cells]), fill_step _ _ 2 3 32 _ _ rfl (by simp [Value.cells, hh]) (by simp [splice, zSt, Wst.cells, Value.cells]),
    fill_step _ _ 3 35 1 _ _ rfl rfl (by simp [splice, zSt, Wst.cells, Value.cells, hh]), fill_step _ _ 4 36 2 _ _ rfl rfl (by simp [splice, zSt, Wst.cells, Value.cells, hh]), Instr.fill]
  congr 2
  have tk : ∀ n, 32 ≤ n → (h.map by8).take n = h.map by8 := fun n hn => List.take_of_length_le (by simp [hh]; omega)
  have dk : ∀ n, 32 ≤ n → (h.map by8).drop n = [] := fun n hn => List.drop_of_length_le (by simp [hh]; omega)
  simp [splice, zSt, Wst.cells, Value.cells, hh, List.drop_append, List.take_append, tk, dk]
theorem built_dnR (r i b m : Int) : Try.prog.built 83 [(0, .int .i64 r), (1, .int .i64 i), (2, .agg #[.int .i64 b, .int .i64 m])] = some (Wdn.cells ⟨r, i, b, m⟩).toArray := by kernel_rfl
theorem built_p2n (c s : Int) : Try.prog.built 23 [(0, .int .i64 c), (1, .int .i64 s)] = some #[.int .i64 c, .int .i64 s] := by kernel_rfl
theorem built_p2s (c s : Int) : Try.prog.built 27 [(0, .int .i64 c), (1, .int .i64 s)] = some #[.int .i64 c, .int .i64 s] := by kernel_rfl
def pCm (s : Ps) : Wcm × Ps := (⟨(p2 s).1.1, (p2 s).1.2, (pH (p2 s).2).1, (pI (pH (p2 s).2).2).1, (p2 (pI (pH (p2 s).2).2).2).1.1, (p2 (pI (pH (p2 s).2).2).2).1.2⟩, (p2 (pI (pH (p2 s).2).2).2).2)
def pSt (s : Ps) : Wst × Ps := (⟨(pI s).1, (p2 (pI s).2).1.1, (p2 (pI s).2).1.2, (pH (p2 (pI s).2).2).1, (pN (pH (p2 (pI s).2).2).2).1, (p2 (pN (pH (p2 (pI s).2).2).2).2).1.1, (p2 (pN (pH (p2 (pI s).2).2).2).2).1.2⟩, (p2 (pN (pH (p2 (pI s).2).2).2).2).2)
def pDn (s : Ps) : Wdn × Ps := (⟨(pI s).1, (pI (pI s).2).1, (p2 (pI (pI s).2).2).1.1, (p2 (pI (pI s).2).2).1.2⟩, (p2 (pI (pI s).2).2).2)
theorem pCm_ok (s : Ps) : (pCm s).1.Ok := ⟨pI_in _, pI_in _, pH_len _, pI_in _, pI_in _, pI_in _⟩
theorem pSt_ok (s : Ps) : (pSt s).1.Ok := ⟨pI_in _, pI_in _, pI_in _, pH_len _, pN_lt _, pI_in _, pI_in _⟩
theorem pDn_ok (s : Ps) : (pDn s).1.Ok := ⟨pI_in _, pI_in _, pI_in _, pI_in _⟩
set_option maxHeartbeats 1000000 in
theorem getName_any {w : World} {F : List Nat} {g : Nat} {s : Ps} (hr : Rs w F g s) : Calls Try.prog 115 #[.pointer (some ⟨g, 0, none⟩)] w fun e w' => e = .returned (.agg #[.int .i64 (p2 s).1.1, .int .i64 (p2 s).1.2]) ∧ Rs w' F g (p2 s).2 ∧ Fr [g] w w' := by
  obtain ⟨wa, hwa⟩ : ∃ wa, wa = w.alloc (Obj.cells #[.int .i64 0, .int .i64 0] 23) := ⟨_, rfl⟩
  have hf0 : Fr [] w wa := by rw [hwa]; exact (Fr.refl [] w).alloc _
  have HB : Hid (Blk wa w.heap.size 23 #[.int .i64 0, .int .i64 0]) := Lib.hid (by rw [hwa]; exact Blk.new _ _ _)
  have HR := Lib.hid (hr.fr hf0 (by simp) (by simp))
  have HNF : Hid (¬ w.heap.size ∈ F) := Lib.hid (fun hm => by have := hr.lt _ hm; omega)
  have HG : Hid (g < w.heap.size) := Lib.hid hr.gt
  have HF0 := Lib.hid hf0
  have HWA := Lib.hid hwa
  clear hwa hf0 hr
  go_enter Try.func115, Try.ntmps115
  go_upto_region 1 with (fail)
  change Code.wp _ _ _ _ (w.alloc (Obj.cells #[.int .i64 0, .int .i64 0] 23))
  rw [← HWA.out]
  go_wp2_with fail
  refine (getInt_any HR.out).mono ?_
  rintro e_ w1 ⟨rfl, h1, h2⟩
  have HR0 := Lib.hid h1
  have HF1 : Hid (Fr [g] wa w1) := Lib.hid h2
  clear h1 h2
  go_wp2_with fail
  refine (getInt_any HR0.out).mono ?_
  rintro e_ w2 ⟨rfl, h1, h2⟩
  have HR1 := Lib.hid h1
  have HF2 : Hid (Fr [g] wa w2) := Lib.hid (HF1.out.trans h2 (fun x hx _ => hx))
  clear h1 h2
  have HBE := Lib.hid (HB.out.keep HF2.out (by have := HG.out; simp; omega))
  have HBU : Hid (Try.prog.built 23 [(0, .int .i64 (p2 s).1.1), (1, .int .i64 (p2 s).1.2)] = some #[.int .i64 (p2 s).1.1, .int .i64 (p2 s).1.2]) := Lib.hid (built_p2n _ _)
  have HAL : Hid ((#[.int .i64 (p2 s).1.1, .int .i64 (p2 s).1.2] : Array Value).all (·.oneCell') = true) := Lib.hid (by kernel_rfl)
  have HVS : Hid ((#[.int .i64 (p2 s).1.1, .int .i64 (p2 s).1.2] : Array Value).size = 2) := Lib.hid (rfl)
  have HTS : Hid ((Try.prog.info? 23).map (·.size) = some (#[.int .i64 (p2 s).1.1, .int .i64 (p2 s).1.2] : Array Value).size) := Lib.hid (by rw [HVS.out]; kernel_rfl)
  obtain ⟨V, hV⟩ : ∃ V, V = (#[.int .i64 (p2 s).1.1, .int .i64 (p2 s).1.2] : Array Value) := ⟨_, rfl⟩
  have HV := Lib.hid hV
  rw [← hV] at HBU HAL HVS HTS
  clear hV
  go_wp2_with (first
    | (refine wpList_builtg rfl 23 _ rfl _ _ HBU.out rfl ?_)
    | (refine wpList_store_blk rfl 23 _ _ rfl w.heap.size V rfl rfl 23 #[.int .i64 0, .int .i64 0] HBE.out HTS.out (by rw [HVS.out]; rfl) HAL.out ?_
       intro w9 hb9 hf9
       have HB9 := Lib.hid hb9
       have HF9 := Lib.hid hf9
       clear hb9 hf9))
  refine bodyPost_ret (v := .agg V) (results_cell_row Try.results115 _ _ w.heap.size 23 V _ _ rfl HB9.out Try.underlying23 rfl HTS.out) rfl ⟨by rw [HV.out], ?_, ?_⟩
  · exact HR1.out.fr HF9.out (by have := HG.out; simp; omega) (fun k hk hm => HNF.out (by simp at hm; exact hm ▸ hk))
  · exact Fr.unbox HF0.out HF2.out HF9.out (Nat.le_refl _)
set_option maxHeartbeats 1000000 in
theorem getSig_any {w : World} {F : List Nat} {g : Nat} {s : Ps} (hr : Rs w F g s) : Calls Try.prog 90 #[.pointer (some ⟨g, 0, none⟩)] w fun e w' => e = .returned (.agg #[.int .i64 (p2 s).1.1, .int .i64 (p2 s).1.2]) ∧ Rs w' F g (p2 s).2 ∧ Fr [g] w w' := by
  obtain ⟨wa, hwa⟩ : ∃ wa, wa = w.alloc (Obj.cells #[.int .i64 0, .int .i64 0] 27) := ⟨_, rfl⟩
  have hf0 : Fr [] w wa := by rw [hwa]; exact (Fr.refl [] w).alloc _
  have HB : Hid (Blk wa w.heap.size 27 #[.int .i64 0, .int .i64 0]) := Lib.hid (by rw [hwa]; exact Blk.new _ _ _)
  have HR := Lib.hid (hr.fr hf0 (by simp) (by simp))
  have HNF : Hid (¬ w.heap.size ∈ F) := Lib.hid (fun hm => by have := hr.lt _ hm; omega)
  have HG : Hid (g < w.heap.size) := Lib.hid hr.gt
  have HF0 := Lib.hid hf0
  have HWA := Lib.hid hwa
  clear hwa hf0 hr
  go_enter Try.func90, Try.ntmps90
  go_upto_region 1 with (fail)
  change Code.wp _ _ _ _ (w.alloc (Obj.cells #[.int .i64 0, .int .i64 0] 27))
  rw [← HWA.out]
  go_wp2_with fail
  refine (getInt_any HR.out).mono ?_
  rintro e_ w1 ⟨rfl, h1, h2⟩
  have HR0 := Lib.hid h1
  have HF1 : Hid (Fr [g] wa w1) := Lib.hid h2
  clear h1 h2
  go_wp2_with fail
  refine (getInt_any HR0.out).mono ?_
  rintro e_ w2 ⟨rfl, h1, h2⟩
  have HR1 := Lib.hid h1
  have HF2 : Hid (Fr [g] wa w2) := Lib.hid (HF1.out.trans h2 (fun x hx _ => hx))
  clear h1 h2
  have HBE := Lib.hid (HB.out.keep HF2.out (by have := HG.out; simp; omega))
  have HBU : Hid (Try.prog.built 27 [(0, .int .i64 (p2 s).1.1), (1, .int .i64 (p2 s).1.2)] = some #[.int .i64 (p2 s).1.1, .int .i64 (p2 s).1.2]) := Lib.hid (built_p2s _ _)
  have HAL : Hid ((#[.int .i64 (p2 s).1.1, .int .i64 (p2 s).1.2] : Array Value).all (·.oneCell') = true) := Lib.hid (by kernel_rfl)
  have HVS : Hid ((#[.int .i64 (p2 s).1.1, .int .i64 (p2 s).1.2] : Array Value).size = 2) := Lib.hid (rfl)
  have HTS : Hid ((Try.prog.info? 27).map (·.size) = some (#[.int .i64 (p2 s).1.1, .int .i64 (p2 s).1.2] : Array Value).size) := Lib.hid (by rw [HVS.out]; kernel_rfl)
  obtain ⟨V, hV⟩ : ∃ V, V = (#[.int .i64 (p2 s).1.1, .int .i64 (p2 s).1.2] : Array Value) := ⟨_, rfl⟩
  have HV := Lib.hid hV
  rw [← hV] at HBU HAL HVS HTS
  clear hV
  go_wp2_with (first
    | (refine wpList_builtg rfl 27 _ rfl _ _ HBU.out rfl ?_)
    | (refine wpList_store_blk rfl 27 _ _ rfl w.heap.size V rfl rfl 27 #[.int .i64 0, .int .i64 0] HBE.out HTS.out (by rw [HVS.out]; rfl) HAL.out ?_
       intro w9 hb9 hf9
       have HB9 := Lib.hid hb9
       have HF9 := Lib.hid hf9
       clear hb9 hf9))
  refine bodyPost_ret (v := .agg V) (results_cell_row Try.results90 _ _ w.heap.size 27 V _ _ rfl HB9.out Try.underlying27 rfl HTS.out) rfl ⟨by rw [HV.out], ?_, ?_⟩
  · exact HR1.out.fr HF9.out (by have := HG.out; simp; omega) (fun k hk hm => HNF.out (by simp at hm; exact hm ▸ hk))
  · exact Fr.unbox HF0.out HF2.out HF9.out (Nat.le_refl _)
set_option maxHeartbeats 1000000 in
theorem getCommit_any {w : World} {F : List Nat} {g : Nat} {s : Ps} (hr : Rs w F g s) : Calls Try.prog 84 #[.pointer (some ⟨g, 0, none⟩)] w fun e w' => e = .returned (.agg (pCm s).1.cells.toArray) ∧ Rs w' F g (pCm s).2 ∧ Fr [g] w w' := by
  obtain ⟨wa, hwa⟩ : ∃ wa, wa = w.alloc (Obj.cells zCm 29) := ⟨_, rfl⟩
  have hf0 : Fr [] w wa := by rw [hwa]; exact (Fr.refl [] w).alloc _
  have HB : Hid (Blk wa w.heap.size 29 zCm) := Lib.hid (by rw [hwa]; exact Blk.new _ _ _)
  have HR := Lib.hid (hr.fr hf0 (by simp) (by simp))
  have HNF : Hid (¬ w.heap.size ∈ F) := Lib.hid (fun hm => by have := hr.lt _ hm; omega)
  have HG : Hid (g < w.heap.size) := Lib.hid hr.gt
  have HF0 := Lib.hid hf0
  have HWA := Lib.hid hwa
  clear hwa hf0 hr
  go_enter Try.func84, Try.ntmps84
  go_upto_region 1 with (fail)
  change Code.wp _ _ _ _ (w.alloc (Obj.cells zCm 29))
  rw [← HWA.out]
  go_wp2_with fail
  refine (getName_any HR.out).mono ?_
  rintro e_ w1 ⟨rfl, h1, h2⟩
  have HR0 := Lib.hid h1
  have HF1 : Hid (Fr [g] wa w1) := Lib.hid h2
  clear h1 h2
  go_wp2_with fail
  refine (getHash_any HR0.out).mono ?_
  rintro e_ w2 ⟨rfl, h1, h2⟩
  have HR1 := Lib.hid h1
  have HF2 : Hid (Fr [g] wa w2) := Lib.hid (HF1.out.trans h2 (fun x hx _ => hx))
  clear h1 h2
  go_wp2_with fail
  refine (getInt_any HR1.out).mono ?_
  rintro e_ w3 ⟨rfl, h1, h2⟩
  have HR2 := Lib.hid h1
  have HF3 : Hid (Fr [g] wa w3) := Lib.hid (HF2.out.trans h2 (fun x hx _ => hx))
  clear h1 h2
  go_wp2_with fail
  refine (getSig_any HR2.out).mono ?_
  rintro e_ w4 ⟨rfl, h1, h2⟩
  have HR3 := Lib.hid h1
  have HF4 : Hid (Fr [g] wa w4) := Lib.hid (HF3.out.trans h2 (fun x hx _ => hx))
  clear h1 h2
  have HBE := Lib.hid (HB.out.keep HF4.out (by have := HG.out; simp; omega))
  have HBU : Hid (Try.prog.built 29 [(0, .agg #[.int .i64 (pCm s).1.c, .int .i64 (pCm s).1.s]), (1, .agg ((pCm s).1.h.map by8).toArray), (2, .int .i64 (pCm s).1.n), (3, .agg #[.int .i64 (pCm s).1.b, .int .i64 (pCm s).1.m])] = some (pCm s).1.cells.toArray) := Lib.hid (built_cmR _ _ _ _ _ _ (pCm_ok s).h)
  have HAL : Hid (((pCm s).1.cells.toArray : Array Value).all (·.oneCell') = true) := Lib.hid (all_oneCell_toArray (Wcm.one _))
  have HVS : Hid (((pCm s).1.cells.toArray : Array Value).size = 37) := Lib.hid (by rw [List.size_toArray]; exact Wcm.len (pCm_ok s).h)
  have HTS : Hid ((Try.prog.info? 29).map (·.size) = some ((pCm s).1.cells.toArray : Array Value).size) := Lib.hid (by rw [HVS.out]; kernel_rfl)
  obtain ⟨V, hV⟩ : ∃ V, V = ((pCm s).1.cells.toArray : Array Value) := ⟨_, rfl⟩
  have HV := Lib.hid hV
  rw [← hV] at HBU HAL HVS HTS
  clear hV
  go_wp2_with (first
    | (refine wpList_builtg rfl 29 _ rfl _ _ HBU.out rfl ?_)
    | (refine wpList_store_blk rfl 29 _ _ rfl w.heap.size V rfl rfl 29 zCm HBE.out HTS.out (by rw [HVS.out]; rfl) HAL.out ?_
       intro w9 hb9 hf9
       have HB9 := Lib.hid hb9
       have HF9 := Lib.hid hf9
       clear hb9 hf9))
  refine bodyPost_ret (v := .agg V) (results_cell_row Try.results84 _ _ w.heap.size 29 V _ _ rfl HB9.out Try.underlying29 rfl HTS.out) rfl ⟨by rw [HV.out], ?_, ?_⟩
  · exact HR3.out.fr HF9.out (by have := HG.out; simp; omega) (fun k hk hm => HNF.out (by simp at hm; exact hm ▸ hk))
  · exact Fr.unbox HF0.out HF4.out HF9.out (Nat.le_refl _)
set_option maxHeartbeats 1000000 in
theorem getStamp_any {w : World} {F : List Nat} {g : Nat} {s : Ps} (hr : Rs w F g s) : Calls Try.prog 86 #[.pointer (some ⟨g, 0, none⟩)] w fun e w' => e = .returned (.agg (pSt s).1.cells.toArray) ∧ Rs w' F g (pSt s).2 ∧ Fr [g] w w' := by
  obtain ⟨wa, hwa⟩ : ∃ wa, wa = w.alloc (Obj.cells zSt 90) := ⟨_, rfl⟩
  have hf0 : Fr [] w wa := by rw [hwa]; exact (Fr.refl [] w).alloc _
  have HB : Hid (Blk wa w.heap.size 90 zSt) := Lib.hid (by rw [hwa]; exact Blk.new _ _ _)
  have HR := Lib.hid (hr.fr hf0 (by simp) (by simp))
  have HNF : Hid (¬ w.heap.size ∈ F) := Lib.hid (fun hm => by have := hr.lt _ hm; omega)
  have HG : Hid (g < w.heap.size) := Lib.hid hr.gt
  have HF0 := Lib.hid hf0
  have HWA := Lib.hid hwa
  clear hwa hf0 hr
  go_enter Try.func86, Try.ntmps86
  go_upto_region 1 with (fail)
  change Code.wp _ _ _ _ (w.alloc (Obj.cells zSt 90))
  rw [← HWA.out]
  go_wp2_with fail
  refine (getInt_any HR.out).mono ?_
  rintro e_ w1 ⟨rfl, h1, h2⟩
  have HR0 := Lib.hid h1
  have HF1 : Hid (Fr [g] wa w1) := Lib.hid h2
  clear h1 h2
  go_wp2_with fail
  refine (getName_any HR0.out).mono ?_
  rintro e_ w2 ⟨rfl, h1, h2⟩
  have HR1 := Lib.hid h1
  have HF2 : Hid (Fr [g] wa w2) := Lib.hid (HF1.out.trans h2 (fun x hx _ => hx))
  clear h1 h2
  go_wp2_with fail
  refine (getHash_any HR1.out).mono ?_
  rintro e_ w3 ⟨rfl, h1, h2⟩
  have HR2 := Lib.hid h1
  have HF3 : Hid (Fr [g] wa w3) := Lib.hid (HF2.out.trans h2 (fun x hx _ => hx))
  clear h1 h2
  go_wp2_with fail
  refine (getNum_any HR2.out).mono ?_
  rintro e_ w4 ⟨rfl, h1, h2⟩
  have HR3 := Lib.hid h1
  have HF4 : Hid (Fr [g] wa w4) := Lib.hid (HF3.out.trans h2 (fun x hx _ => hx))
  clear h1 h2
  go_wp2_with fail
  refine (getSig_any HR3.out).mono ?_
  rintro e_ w5 ⟨rfl, h1, h2⟩
  have HR4 := Lib.hid h1
  have HF5 : Hid (Fr [g] wa w5) := Lib.hid (HF4.out.trans h2 (fun x hx _ => hx))
  clear h1 h2
  have HBE := Lib.hid (HB.out.keep HF5.out (by have := HG.out; simp; omega))
  have HBU : Hid (Try.prog.built 90 [(0, .int .i64 (pSt s).1.r), (1, .agg #[.int .i64 (pSt s).1.c, .int .i64 (pSt s).1.s]), (2, .agg ((pSt s).1.h.map by8).toArray), (3, .int .u64 ((pSt s).1.t : Int)), (4, .agg #[.int .i64 (pSt s).1.b, .int .i64 (pSt s).1.m])] = some (pSt s).1.cells.toArray) := Lib.hid (built_stR _ _ _ _ _ _ _ (pSt_ok s).h)
  have HAL : Hid (((pSt s).1.cells.toArray : Array Value).all (·.oneCell') = true) := Lib.hid (all_oneCell_toArray (Wst.one _))
  have HVS : Hid (((pSt s).1.cells.toArray : Array Value).size = 38) := Lib.hid (by rw [List.size_toArray]; exact Wst.len (pSt_ok s).h)
  have HTS : Hid ((Try.prog.info? 90).map (·.size) = some ((pSt s).1.cells.toArray : Array Value).size) := Lib.hid (by rw [HVS.out]; kernel_rfl)
  obtain ⟨V, hV⟩ : ∃ V, V = ((pSt s).1.cells.toArray : Array Value) := ⟨_, rfl⟩
  have HV := Lib.hid hV
  rw [← hV] at HBU HAL HVS HTS
  clear hV
  go_wp2_with (first
    | (refine wpList_builtg rfl 90 _ rfl _ _ HBU.out rfl ?_)
    | (refine wpList_store_blk rfl 90 _ _ rfl w.heap.size V rfl rfl 90 zSt HBE.out HTS.out (by rw [HVS.out]; rfl) HAL.out ?_
       intro w9 hb9 hf9
       have HB9 := Lib.hid hb9
       have HF9 := Lib.hid hf9
       clear hb9 hf9))
  refine bodyPost_ret (v := .agg V) (results_cell_row Try.results86 _ _ w.heap.size 90 V _ _ rfl HB9.out Try.underlying90 rfl HTS.out) rfl ⟨by rw [HV.out], ?_, ?_⟩
  · exact HR4.out.fr HF9.out (by have := HG.out; simp; omega) (fun k hk hm => HNF.out (by simp at hm; exact hm ▸ hk))
  · exact Fr.unbox HF0.out HF5.out HF9.out (Nat.le_refl _)
set_option maxHeartbeats 1000000 in
theorem getDeny_any {w : World} {F : List Nat} {g : Nat} {s : Ps} (hr : Rs w F g s) : Calls Try.prog 122 #[.pointer (some ⟨g, 0, none⟩)] w fun e w' => e = .returned (.agg (pDn s).1.cells.toArray) ∧ Rs w' F g (pDn s).2 ∧ Fr [g] w w' := by
  obtain ⟨wa, hwa⟩ : ∃ wa, wa = w.alloc (Obj.cells #[.int .i64 0, .int .i64 0, .int .i64 0, .int .i64 0] 83) := ⟨_, rfl⟩
  have hf0 : Fr [] w wa := by rw [hwa]; exact (Fr.refl [] w).alloc _
  have HB : Hid (Blk wa w.heap.size 83 #[.int .i64 0, .int .i64 0, .int .i64 0, .int .i64 0]) := Lib.hid (by rw [hwa]; exact Blk.new _ _ _)
  have HR := Lib.hid (hr.fr hf0 (by simp) (by simp))
  have HNF : Hid (¬ w.heap.size ∈ F) := Lib.hid (fun hm => by have := hr.lt _ hm; omega)
  have HG : Hid (g < w.heap.size) := Lib.hid hr.gt
  have HF0 := Lib.hid hf0
  have HWA := Lib.hid hwa
  clear hwa hf0 hr
  go_enter Try.func122, Try.ntmps122
  go_upto_region 1 with (fail)
  change Code.wp _ _ _ _ (w.alloc (Obj.cells #[.int .i64 0, .int .i64 0, .int .i64 0, .int .i64 0] 83))
  rw [← HWA.out]
  go_wp2_with fail
  refine (getInt_any HR.out).mono ?_
  rintro e_ w1 ⟨rfl, h1, h2⟩
  have HR0 := Lib.hid h1
  have HF1 : Hid (Fr [g] wa w1) := Lib.hid h2
  clear h1 h2
  go_wp2_with fail
  refine (getInt_any HR0.out).mono ?_
  rintro e_ w2 ⟨rfl, h1, h2⟩
  have HR1 := Lib.hid h1
  have HF2 : Hid (Fr [g] wa w2) := Lib.hid (HF1.out.trans h2 (fun x hx _ => hx))
  clear h1 h2
  go_wp2_with fail
  refine (getSig_any HR1.out).mono ?_
  rintro e_ w3 ⟨rfl, h1, h2⟩
  have HR2 := Lib.hid h1
  have HF3 : Hid (Fr [g] wa w3) := Lib.hid (HF2.out.trans h2 (fun x hx _ => hx))
  clear h1 h2
  have HBE := Lib.hid (HB.out.keep HF3.out (by have := HG.out; simp; omega))
  have HBU : Hid (Try.prog.built 83 [(0, .int .i64 (pDn s).1.r), (1, .int .i64 (pDn s).1.i), (2, .agg #[.int .i64 (pDn s).1.b, .int .i64 (pDn s).1.m])] = some (pDn s).1.cells.toArray) := Lib.hid (built_dnR _ _ _ _)
  have HAL : Hid (((pDn s).1.cells.toArray : Array Value).all (·.oneCell') = true) := Lib.hid (all_oneCell_toArray (Wdn.one _))
  have HVS : Hid (((pDn s).1.cells.toArray : Array Value).size = 4) := Lib.hid (rfl)
  have HTS : Hid ((Try.prog.info? 83).map (·.size) = some ((pDn s).1.cells.toArray : Array Value).size) := Lib.hid (by rw [HVS.out]; kernel_rfl)
  obtain ⟨V, hV⟩ : ∃ V, V = ((pDn s).1.cells.toArray : Array Value) := ⟨_, rfl⟩
  have HV := Lib.hid hV
  rw [← hV] at HBU HAL HVS HTS
  clear hV
  go_wp2_with (first
    | (refine wpList_builtg rfl 83 _ rfl _ _ HBU.out rfl ?_)
    | (refine wpList_store_blk rfl 83 _ _ rfl w.heap.size V rfl rfl 83 #[.int .i64 0, .int .i64 0, .int .i64 0, .int .i64 0] HBE.out HTS.out (by rw [HVS.out]; rfl) HAL.out ?_
       intro w9 hb9 hf9
       have HB9 := Lib.hid hb9
       have HF9 := Lib.hid hf9
       clear hb9 hf9))
  refine bodyPost_ret (v := .agg V) (results_cell_row Try.results122 _ _ w.heap.size 83 V _ _ rfl HB9.out Try.underlying83 rfl HTS.out) rfl ⟨by rw [HV.out], ?_, ?_⟩
  · exact HR2.out.fr HF9.out (by have := HG.out; simp; omega) (fun k hk hm => HNF.out (by simp at hm; exact hm ▸ hk))
  · exact Fr.unbox HF0.out HF3.out HF9.out (Nat.le_refl _)
end Go.Proofs.Ytbkhkhippcjdgaa
