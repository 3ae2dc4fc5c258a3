/- Package part: lists of parts, and the parts that have lists: what each writes. -/
import Derived.Test.YtbkhkhippcjdgaaPut
import Derived.Test.YtbkhkhippcjdgaaLst2
namespace Go.Proofs.Ytbkhkhippcjdgaa
open Go.RowKit
set_option maxRecDepth 100000

def fnV (f : FuncId) : Value := .func (.func f) #[] #[]
/-- a list's bytes: how many, then each -/
theorem flat_len {α : Type} {full : α → List UInt8} {N : Nat} : ∀ {l : List α} {k : Nat}, (∀ v ∈ l, (full v).length ≤ N) → l.length ≤ k → (l.flatMap full).length ≤ k * N
  | [], _, _, _ => by simp
  | v :: l, 0, _, h => by simp at h
  | v :: l, k + 1, hf, h => by
    rw [List.flatMap_cons, List.length_append, Nat.succ_mul]
    have h1 := hf v (by simp)
    have h2 := flat_len (l := l) (k := k) (fun u hu => hf u (by simp [hu])) (by simp at h; omega)
    omega
theorem Gr.calls {P : Program} {f : FuncId} {args : Array Value} {w w1 : World} {S : List Nat} {g : Nat} {l l' : List UInt8} {v : Value} (h : Gr w S g l w1)
    (hc : ∀ S1, Wr w1 S1 g l → Fr S w w1 → (∀ x ∈ S1, x < w.heap.size → x ∈ S) → Calls P f args w1 fun e w' => e = .returned v ∧ Gr w1 S1 g l' w') : Calls P f args w1 fun e w' => e = .returned v ∧ Gr w S g l' w' := by
  obtain ⟨S1, h1, h2, h3⟩ := h
  refine (hc S1 h1 h2 h3).mono ?_
  rintro e w' ⟨rfl, S2, k1, k2, k3⟩
  exact ⟨rfl, S2, k1, h2.trans k2 h3, fun x hx hl => h3 x (k3 x hx (Nat.lt_of_lt_of_le hl h2.size)) hl⟩
theorem Lst.keep' {α : Type} {k : Nat} {cells : α → List Value} {ok ok' : World → α → Prop} {w w' : World} {A : Option Addr} {n : Nat} {l : List α} {S : List Nat} (h : Lst k cells ok w A n l) (hf : Fr S w w') (hA : 0 < n → ∀ a, A = some a → ¬ a.block ∈ S) (hok : ∀ v ∈ l, ok w v → ok' w' v) : Lst k cells ok' w' A n l :=
  ⟨h.1, fun v hv => ⟨(h.2.1 v hv).1, hok v hv (h.2.1 v hv).2⟩, fun hn => by
    obtain ⟨ad, e, hc⟩ := h.2.2 hn
    exact ⟨ad, e, fun i v hv j x hx => hf.cell (hc i v hv j x hx) (by rw [add_block]; exact hA hn ad e)⟩⟩
theorem Lst.lt {α : Type} {k : Nat} {cells : α → List Value} {ok : World → α → Prop} {w : World} {A : Option Addr} {n : Nat} {l : List α} (h : Lst k cells ok w A n l) (hn : 0 < n) (hk : 0 < k) (hlen : ∀ v ∈ l, (cells v).length = k) (a : Addr) (ha : A = some a) : a.block < w.heap.size := by
  obtain ⟨ad, e, hc⟩ := h.2.2 hn
  have h1 : 0 < l.length := by rw [h.1]; exact hn
  have hv := List.getElem?_eq_getElem h1
  have h2 : 0 < (cells l[0]).length := by rw [hlen _ (List.mem_of_getElem? hv)]; exact hk
  have := hc 0 _ hv 0 _ (List.getElem?_eq_getElem h2)
  have h3 := World.block_lt_of_cell? _ _ this
  rw [add_block] at h3
  rw [ha] at e
  injection e with e
  rw [e]
  exact h3
def listL {α : Type} (full : α → List UInt8) (l : List α) : List UInt8 := encI (l.length : Int) ++ l.flatMap full

set_option maxHeartbeats 2000000 in
theorem putStamps_any {α : Type} (cells : α → List Value) (ok : World → List Nat → α → Prop) (full : α → List UInt8) (N : Nat) (hone : ∀ v, ∀ u ∈ cells v, u.oneCell' = true) (hsz : (Try.prog.info? 90).map (·.size) = some 38)
    (hfull : ∀ W S v, ok W S v → (full v).length ≤ N)
    (hput : ∀ (v : α) (W : World) (S : List Nat) (g : Nat) (l : List UInt8), ok W S v → Wr W S g l → l.length + N ≤ 1073741000 → Calls Try.prog 74 #[.pointer (some ⟨g, 0, none⟩), .agg (cells v).toArray] W fun e w' => e = .returned (.pointer (some ⟨g, 0, none⟩)) ∧ Gr W S g (l ++ full v) w')
    (w : World) (S : List Nat) (g : Nat) (l : List UInt8) (hw : Wr w S g l) (A : Option Addr) (n c : Nat) (xs : List α) (hx : Lst 38 cells (fun w v => ok w S v) w A n xs) (hn : n ≤ 1000) (hA : 0 < n → ∀ a, A = some a → ¬ a.block ∈ S)
    (hkeep : ∀ W S', Fr S w W → (∀ x ∈ S', x < w.heap.size → x ∈ S) → ∀ v ∈ xs, ok w S v → ok W S' v) (hl : l.length + 20 + (n + 1) * N ≤ 1073741000) :
    Calls Try.prog 72 #[.pointer (some ⟨g, 0, none⟩), fnV 74, .slice A n c] w fun e w' => e = .returned (.pointer (some ⟨g, 0, none⟩)) ∧ Gr w S g (l ++ listL full xs) w' := by
  have HG0 := Lib.hid (Gr.refl hw)
  have HX := Lib.hid hx
  have HA := Lib.hid hA
  have HL := Lib.hid hl
  have HKP := Lib.hid hkeep
  have HSL := Lib.hid hw.lt
  have hxn := hx.1
  clear hw hx hA hl hkeep
  unfold fnV
  go_enter Try.func72, Try.ntmps72
  go_wp2_with fail
  refine (HG0.out.call fun S1 k1 => int_any (n : Int) (by omega) (by omega) _ S1 g _ k1 (by have := HL.out; omega)).mono ?_
  rintro e w1 ⟨rfl, hg1⟩
  have HG1 := Lib.hid hg1
  clear hg1 HG0
  go_wp2_with fail
  go_loopw [15] (fun i wr => ∃ k : Nat, k ≤ n ∧ i = .int .i64 k ∧ Gr w S g (l ++ encI (n : Int) ++ (xs.take k).flatMap full) wr) (fun i _ => n - (intOf i).toNat)
  case atStart => exact ⟨0, by omega, rfl, by simpa using HG1.out⟩
  case round =>
    obtain ⟨k, hk, rfl, hg⟩ := hrel
    have HG := Lib.hid hg
    clear hg
    by_cases hlt : k < n
    · obtain ⟨ad, v, rfl, hv, hcl, hok, hc⟩ := HX.out.at hlt
      have HV := Lib.hid hv
      have HCL := Lib.hid hcl
      have HOK := Lib.hid hok
      have HMEM := Lib.hid (List.mem_of_getElem? hv)
      have HC := Lib.hid (fun j x hj => HG.out.fr.cell (hc j x hj) (by rw [add_block, add_block]; exact HA.out (by omega) ad rfl))
      have HONE := Lib.hid (hone v)
      have HPUT := Lib.hid (hput v)
      have hk0 : (0 : Int) ≤ k := by omega
      have hlen : ((xs.take k).flatMap full).length ≤ k * N := flat_len (fun v hv => hfull w S v (HX.out.2.1 v (List.mem_of_mem_take hv)).2) (by rw [List.length_take]; omega)
      have hkn2 : k * N + N ≤ (n + 1) * N := by rw [← Nat.succ_mul]; exact Nat.mul_le_mul_right N (by omega)
      have HLEN : Hid ((l ++ encI (n : Int) ++ (xs.take k).flatMap full).length + N ≤ 1073741000) := Lib.hid (by have := HL.out; have := encI_len (n : Int) (by omega); simp only [List.length_append]; omega)
      have HTK : Hid ((xs.take (k + 1)).flatMap full = (xs.take k).flatMap full ++ full v) := Lib.hid (by rw [List.take_add_one, hv]; simp)
      have HFV := Lib.hid (rfl : cells v = cells v)
      clear hv hcl hok hc hlen hkn2
      generalize hcv : cells v = C at *
      go_wp2_with (first
        | (refine wpList_cells rfl 90 _ rfl _ rfl C HC.out (row_stamp.of HCL.out) ?_)
        | (refine wpList_store_box rfl 90 _ _ rfl _ 90 C rfl rfl (by rw [hsz, HCL.out]) (by rw [HCL.out]; rfl) HONE.out ?_
           intro wb hbb hfb
           have HBB := Lib.hid hbb
           have HFB := Lib.hid hfb
           clear hbb hfb)
        | (refine wpList_row rfl 90 _ rfl _ _ rfl _ HBB.out.range (row_stamp.of HCL.out) ?_))
      have HGB := Lib.hid (HG.out.trans (fun S1 k => ⟨S1, k.keep HFB.out (by simp), HFB.out.mono (by simp), fun x hx _ => hx⟩))
      refine (HGB.out.calls fun S1 k1 f1 s1 => HPUT.out _ S1 g _ (HKP.out wb S1 f1 s1 v HMEM.out HOK.out) k1 HLEN.out).mono ?_
      rintro e w2 ⟨rfl, hg2⟩
      have HG2 := Lib.hid hg2
      clear hg2
      go_wp2
      exact ⟨⟨k + 1, by omega, rfl, HG2.out.eq (by rw [HTK.out, List.append_assoc])⟩, by simp only [intOf, Int.toNat_natCast, Int.toNat_natCast_add_one]; omega⟩
    · have hkn : k = n := by omega
      subst hkn
      have HFIN : Hid (Gr w S g (l ++ listL full xs) wr) := Lib.hid (HG.out.eq (by rw [List.take_of_length_le (by omega), listL, hxn, List.append_assoc]))
      clear HG
      go_wp2
      go_ret
      exact ⟨rfl, HFIN.out⟩
end Go.Proofs.Ytbkhkhippcjdgaa
