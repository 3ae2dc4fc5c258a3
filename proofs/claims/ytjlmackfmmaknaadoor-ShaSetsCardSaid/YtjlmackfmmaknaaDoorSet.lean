/- Package sha: sets of hashes: what a set in memory is; the contracts of its calls. -/
import Derived.Test.YtjlmackfmmaknaaDoorBook2
import Derived.Test.YtjlmackfmmaknaaDoorReg
namespace Go.Proofs.YtjlmackfmmaknaaDoor
set_option maxRecDepth 100000
open Go.RowKit

theorem rowH : (26 : TypeId) < Tryd.prog.types.size := of_decide_eq_true (by kernel_rfl)
theorem wideH : (match Tryd.prog.underlying 26 with | some (.array _ _) | some (.struct _) => true | _ => false) = true := by rw [Tryd.underlying26]
theorem keyLawH : Maps.Keyed Tryd.prog 26 := Maps.Keyed.of_law (deep_law_laid laidOutP (m := 2) (by omega) rowH (by kernel_rfl) wideH)
theorem keyTypeH : Tryd.prog.keyType 26 = true := by kernel_rfl
theorem zeroU (w : World) : (zeroValue 117).run Tryd.prog w = .ok (.agg #[]) w := by kernel_rfl
def hval (h : List UInt8) : Value := .agg (h.map by8).toArray
def hlit (h : List UInt8) : Lit := .string (keyBytes (h.map fun b => Lit.int .u8 (b.toNat : Int)))
theorem cellsH : Tryd.prog.cellsOf 26 = 32 := by kernel_rfl
theorem cellsU : Tryd.prog.cellsOf 5 = 1 := by kernel_rfl
theorem mapM_all {α β : Type} (f : α → Option β) (g : α → β) : ∀ l : List α, (∀ x ∈ l, f x = some (g x)) → l.mapM f = some (l.map g)
  | [], _ => by simp
  | x :: l, h => by
    rw [List.mapM_cons, h x (by simp), mapM_all f g l (fun y hy => h y (by simp [hy]))]
    rfl
theorem flat_one {α β : Type} (g : α → β) : ∀ l : List α, (l.map fun x => [g x]).flatten = l.map g
  | [] => rfl
  | x :: l => by simp [flat_one g l]
theorem range_map {β : Type} (g : UInt8 → β) (h : List UInt8) : (List.range h.length).map (fun i => g (h.getD i 0)) = h.map g := by
  apply List.ext_getElem
  · simp
  · intro i h1 h2
    simp at h1
    simp [h1]
theorem key_hash (h : List UInt8) (hh : h.length = 32) : keyOf Tryd.prog 26 (hval h) = some (hlit h) := by
  obtain ⟨m, hm⟩ : ∃ m, Tryd.prog.types.size = m + 1 := ⟨Tryd.prog.types.size - 1, (Nat.succ_pred_eq_of_pos (Nat.lt_of_le_of_lt (Nat.zero_le _) rowH)).symm⟩
  have hf : (hval h).formed Tryd.prog 26 = true := by simp [hval, Value.formed, Tryd.underlying26, cellsH, hh]
  have hB : ∀ d (b : UInt8), Tryd.prog.keyLits (d + 1) 5 [by8 b] = some [.int .u8 (b.toNat : Int)] := fun d b => by
    have hw : (Lit.int .u8 (b.toNat : Int)).wf = true := WalkArith.wf_u8 ⟨by omega, by have := b.toNat_lt; omega⟩
    simp [Program.keyLits, Tryd.underlying5, by8, hw]
  have hk : Tryd.prog.keyLits (Tryd.prog.types.size + 1) 26 (hval h).cells.toList = some (h.map fun b => Lit.int .u8 (b.toNat : Int)) := by
    rw [hm]
    have hc : (hval h).cells.toList = h.map by8 := by simp [hval, Value.cells]
    rw [hc]
    unfold Program.keyLits
    rw [Tryd.underlying26]
    show (if (h.map by8).length = Tryd.prog.cellsOf 26 then ((List.range 32).mapM fun i => Tryd.prog.keyLits (m + 1) 5 (((h.map by8).drop (i * Tryd.prog.cellsOf 5)).take (Tryd.prog.cellsOf 5))).map List.flatten else none) = _
    rw [cellsH, cellsU, if_pos (by rw [List.length_map, hh])]
    rw [mapM_all _ (fun i => [Lit.int .u8 ((h.getD i 0).toNat : Int)]) (List.range 32) (fun i hi => by
      have hi' : i < h.length := by rw [hh]; exact List.mem_range.1 hi
      rw [Nat.mul_one, List.drop_eq_getElem_cons (by rw [List.length_map]; exact hi'), List.take_succ_cons, List.take_zero, List.getElem_map, hB]
      simp [hi'])]
    show some (((List.range 32).map fun i => [Lit.int .u8 ((h.getD i 0).toNat : Int)]).flatten) = _
    rw [flat_one, ← hh, range_map (fun b => Lit.int .u8 (b.toNat : Int))]
  unfold keyOf
  rw [Tryd.underlying26]
  show (if (Tryd.prog.keyType 26 && (hval h).formed Tryd.prog 26) = true then (Tryd.prog.keyLits (Tryd.prog.types.size + 1) 26 (hval h).cells.toList).map fun ls => Lit.string (keyBytes ls) else none) = _
  rw [keyTypeH, hf, hk]
  rfl
theorem by8_map_inj : ∀ {a b : List UInt8}, a.map by8 = b.map by8 → a = b
  | [], [], _ => rfl
  | [], _ :: _, h => by simp at h
  | _ :: _, [], h => by simp at h
  | x :: a, y :: b, h => by
    simp only [List.map_cons, List.cons.injEq] at h
    have hx : x = y := by
      have := h.1
      simp only [by8, Value.int.injEq, true_and] at this
      exact UInt8.toNat_inj.1 (by omega)
    rw [hx, by8_map_inj h.2]
theorem hlit_inj {a b : List UInt8} (h : a.length = 32) (h' : b.length = 32) (hk : hlit a = hlit b) : a = b := by
  have := keyLawH.inj (key_hash a h) (hk ▸ key_hash b h')
  simp only [hval, Value.agg.injEq, List.toArray_eq_iff, List.toList_toArray] at this
  exact by8_map_inj (by simpa using this)
theorem hlit_key {h : List UInt8} (hh : h.length = 32) : WideAt.IsKeyLit (hlit h) := keyLawH.key (key_hash h hh)

/-- the map's datum has just these hashes -/
structure Hashes (D : DataW Unit) (l : List (List UInt8)) : Prop where
  tidy : Maps.Tidy D
  size : Maps.size D = l.length
  has : ∀ h, h.length = 32 → Maps.has D (hlit h) = decide (h ∈ l)
theorem Hashes.nil : Hashes (.map [] : DataW Unit) [] := ⟨Maps.tidy_empty, rfl, fun h _ => by simp [Maps.has_eq]⟩
theorem Hashes.snoc {D : DataW Unit} {l : List (List UInt8)} {h : List UInt8} (k : Hashes D l) (hh : h.length = 32) (hn : ¬ h ∈ l) : Hashes (D.put (hlit h) (.agg [])) (l ++ [h]) := by
  refine ⟨k.tidy.put (hlit_key hh) _, ?_, ?_⟩
  · rw [Maps.size_put k.tidy, k.has h hh, k.size]
    simp [hn]
  · intro x hx
    by_cases hxe : x = h
    · subst hxe
      rw [Maps.has_put_same k.tidy.isMap (hlit_key hh)]
      simp
    · rw [Maps.has_put_other (fun e => hxe (hlit_inj hx hh e)), k.has x hx]
      simp [hxe]

/-- a set at block g -/
def Sok (w : World) (S : List Nat) (g : Nat) (l : List (List UInt8)) : Prop :=
  ∃ b D, S = [g, b] ∧ Blk w g 116 #[.map (some b)] ∧ w.ownsMap Tryd.prog 26 unitElem b l.length D ∧ Hashes D l
theorem Sok.keep {w w' : World} {S T : List Nat} {g : Nat} {l : List (List UInt8)} (h : Sok w S g l) (hf : Fr T w w') (hn : ∀ x ∈ S, ¬ x ∈ T) : Sok w' S g l := by
  obtain ⟨b, D, rfl, h1, h2, h3⟩ := h
  exact ⟨b, D, rfl, h1.keep hf (hn g (by simp)), own_fr h2 hf (hn b (by simp)), h3⟩
theorem Sok.lt {w : World} {S : List Nat} {g : Nat} {l : List (List UInt8)} (h : Sok w S g l) : ∀ x ∈ S, x < w.heap.size := by
  obtain ⟨b, D, rfl, h1, h2, h3⟩ := h
  intro x hx
  simp at hx
  rcases hx with rfl | rfl
  · exact h1.lt
  · exact h2.lt

set_option maxHeartbeats 400000 in
theorem newSet_any (w : World) : Calls Tryd.prog 17 #[] w fun e w' => e = .returned (.pointer (some ⟨w.heap.size + 1, 0, none⟩)) ∧ Sok w' [w.heap.size + 1, w.heap.size] (w.heap.size + 1) [] ∧ Fr [] w w' := by
  have hmm := @run_makeMap Tryd.prog
  go_enter Tryd.func17, Tryd.ntmps17
  go_wp2
  go_ret
  refine ⟨by simp, ⟨w.heap.size, .map [], rfl, ?_, ?_, Hashes.nil⟩, ((Fr.refl [] w).alloc _).alloc _⟩
  · have := Blk.new (w.alloc (.map #[] 0)) 116 #[.map (some w.heap.size)]
    simpa using this
  · exact (World.ownsMap_made _ _ _ _).alloc _
theorem setLen_any (w : World) (S : List Nat) (g : Nat) (l : List (List UInt8)) (h : Sok w S g l) : Calls Tryd.prog 20 #[.pointer (some ⟨g, 0, none⟩)] w fun e w' => e = .returned (.int .i64 l.length) ∧ w = w' := by
  obtain ⟨b, D, rfl, h1, h2, h3⟩ := h
  have hs := h3.size
  have hc := h1.cell 0
  simp at hc
  have HS := Lib.hid hs
  clear hs h1
  go_enter Tryd.func20, Tryd.ntmps20
  go_wp2_with (at_len; refine wpList_len_own _ rfl _ 114 rfl 26 117 Tryd.underlying114 _ b l.length D rfl h2 ?_)
  go_ret
  exact ⟨by rw [HS.out]; rfl, rfl⟩
end Go.Proofs.YtjlmackfmmaknaaDoor
