/- Package disk: what a disk in memory is; what each call makes of it. -/
import Derived.Test.YtdakilioikhhbaaHelp
import Derived.Test.YtdakilioikhhbaaSame
namespace Go.Proofs.Ytdakilioikhhbaa
set_option maxRecDepth 100000
open Go.RowKit

/-- a disk: its bytes, how many are synced, whether it has a Fuse, what that lets through yet, whether it is dead -/
structure Dsk where
  row : List UInt8
  syn : Nat
  fused : Bool
  left : Nat
  dead : Bool
def Dsk.cells (d : Dsk) (A : Option Addr) (c : Nat) : Array Value := #[.slice A d.row.length c, .int .i64 d.syn, .bool d.fused, .int .i64 d.left, .bool d.dead]
def Dsk.passB (d : Dsk) : Bool := !(d.dead || (d.fused && d.left == 0))
def Dsk.passD (d : Dsk) : Dsk := if d.passB then (if d.fused then { d with left := d.left - 1 } else d) else { d with dead := true }
def Dsk.put (d : Dsk) (b : List UInt8) : Dsk := if d.passB then { d.passD with row := d.row ++ b } else d.passD
def Dsk.sync (d : Dsk) : Dsk := if d.passB then { d.passD with syn := d.row.length } else d.passD
def Dsk.leave (d : Dsk) (n : Nat) : Dsk := { d with row := d.row.take n, syn := min d.syn n }
def errB (b : Bool) : Int := if b then 0 else 9
def DokA (w : World) (S : List Nat) (g : Nat) (d : Dsk) (A : Option Addr) (c : Nat) : Prop :=
  S = g :: bk A ∧ Blk w g 60 (d.cells A c) ∧ w.ownsRow 0 5 1 (.slice A d.row.length c) d.row.length (d.row.map by8)
structure DOk (d : Dsk) : Prop where
  syn : d.syn ≤ d.row.length
  left : d.left ≤ 9223372036854775807
  len : d.row.length ≤ 1073741824
def Dok (w : World) (S : List Nat) (g : Nat) (d : Dsk) : Prop := ∃ A c, DokA w S g d A c
section
variable {w w' : World} {S T : List Nat} {g : Nat} {d : Dsk}
theorem Dok.keep (h : Dok w S g d) (hf : Fr T w w') (hn : ∀ k ∈ S, ¬ k ∈ T) : Dok w' S g d := by
  obtain ⟨A, c, rfl, hb, ho⟩ := h
  exact ⟨A, c, rfl, hb.keep hf (hn g (by simp)), own_keep ho hf (fun k hk => hn k (by rw [bk_mem] at hk; simp [hk]))⟩
theorem Dok.lt (h : Dok w S g d) : ∀ k ∈ S, k < w.heap.size := by
  obtain ⟨A, c, rfl, hb, ho⟩ := h
  intro k hk
  simp at hk
  rcases hk with rfl | hk
  · exact hb.lt
  · exact own_lt ho k (by rw [bk_mem]; exact hk)
theorem Dok.mem (h : Dok w S g d) : g ∈ S := by
  obtain ⟨A, c, rfl, _⟩ := h
  simp
/-- a store into the disk's own cells, whatever the row -/
theorem DokA.set {A : Option Addr} {c : Nat} (h : DokA w S g d A c) (i : Nat) (u : Value) (d' : Dsk) (hr : d'.row = d.row) (hc : (d.cells A c).setIfInBounds i u = d'.cells A c) : DokA (w.setCell ⟨g, i, none⟩ u) S g d' A c := by
  obtain ⟨rfl, hb, ho⟩ := h
  refine ⟨rfl, ?_, ?_⟩
  · have := hb.set i u
    rw [hc] at this
    exact this
  · rw [hr]
    exact own_setCell ho ⟨g, i, none⟩ (own_ne ho hb (by decide)) u
theorem own_cut {A : Option Addr} {n c : Nat} {l : List UInt8} {e : TypeId} (h : w.ownsRow 0 e 1 (.slice A n c) n (l.map by8)) {k : Nat} (hk : k ≤ n) : w.ownsRow 0 e 1 (.slice A k c) k ((l.take k).map by8) := by
  obtain ⟨h1, h2⟩ := h
  have hl : l.length = n := by simpa using h1
  refine ⟨by simp; omega, ?_⟩
  rcases h2 with ⟨hv, hn⟩ | ⟨g, cap, cur, hv, hg, hh, h3, h4, h5, h6⟩
  · injection hv with e1 e2 e3
    subst e1 e2 e3
    have : k = 0 := by omega
    subst this
    exact .inl ⟨rfl, rfl⟩
  · injection hv with e1 e2 e3
    subst e1 e3
    refine .inr ⟨g, c, cur, rfl, hg, hh, by omega, h4, h5, ?_⟩
    rw [List.map_take, ← h6, List.take_take]
    congr 1
    omega
end
/-- the disk's five cells -/
theorem DokA.cell0 {w : World} {S : List Nat} {g : Nat} {d : Dsk} {A : Option Addr} {c : Nat} (h : DokA w S g d A c) :
    w.cell? ⟨g, 0, none⟩ = some (.slice A d.row.length c) ∧ w.cell? ⟨g, 1, none⟩ = some (.int .i64 d.syn) ∧ w.cell? ⟨g, 2, none⟩ = some (.bool d.fused) ∧ w.cell? ⟨g, 3, none⟩ = some (.int .i64 d.left) ∧ w.cell? ⟨g, 4, none⟩ = some (.bool d.dead) :=
  ⟨by rw [h.2.1.cell 0]; rfl, by rw [h.2.1.cell 1]; rfl, by rw [h.2.1.cell 2]; rfl, by rw [h.2.1.cell 3]; rfl, by rw [h.2.1.cell 4]; rfl⟩
theorem DokA.dok {w : World} {S : List Nat} {g : Nat} {d : Dsk} {A : Option Addr} {c : Nat} (h : DokA w S g d A c) : Dok w S g d := ⟨A, c, h⟩
theorem Fr.one {S : List Nat} {a w : World} {g : Nat} (h : Fr S a w) (hg : g ∈ S) (i : Nat) (u : Value) : Fr S a (w.setCell ⟨g, i, none⟩ u) := h.setCell _ (fun _ => hg) u

theorem dnew_any (w : World) : Calls Try.prog 8 #[] w fun e w' => e = .returned (.pointer (some ⟨w.heap.size, 0, none⟩)) ∧ Dok w' [w.heap.size] w.heap.size ⟨[], 0, false, 0, false⟩ ∧ Fr [] w w' := by
  go_enter Try.func8, Try.ntmps8
  go_wp2
  go_ret
  exact ⟨rfl, ⟨none, 0, rfl, Blk.new _ _ _, rfl, .inl ⟨rfl, rfl⟩⟩, (Fr.refl [] w).alloc _⟩

theorem dlen_any (w : World) (S : List Nat) (g : Nat) (d : Dsk) (h : Dok w S g d) : Calls Try.prog 31 #[.pointer (some ⟨g, 0, none⟩)] w fun e w' => e = .returned (.int .i64 d.row.length) ∧ w = w' := by
  obtain ⟨A, c, h⟩ := h
  obtain ⟨h0, h1, h2, h3, h4⟩ := h.cell0
  clear h
  go_enter Try.func31, Try.ntmps31
  go_wp2
  go_ret
  exact ⟨rfl, rfl⟩
theorem dsynced_any (w : World) (S : List Nat) (g : Nat) (d : Dsk) (h : Dok w S g d) : Calls Try.prog 29 #[.pointer (some ⟨g, 0, none⟩)] w fun e w' => e = .returned (.int .i64 d.syn) ∧ w = w' := by
  obtain ⟨A, c, h⟩ := h
  obtain ⟨h0, h1, h2, h3, h4⟩ := h.cell0
  clear h
  go_enter Try.func29, Try.ntmps29
  go_wp2
  go_ret
  exact ⟨rfl, rfl⟩
theorem ddead_any (w : World) (S : List Nat) (g : Nat) (d : Dsk) (h : Dok w S g d) : Calls Try.prog 30 #[.pointer (some ⟨g, 0, none⟩)] w fun e w' => e = .returned (.bool d.dead) ∧ w = w' := by
  obtain ⟨A, c, h⟩ := h
  obtain ⟨h0, h1, h2, h3, h4⟩ := h.cell0
  clear h
  go_enter Try.func30, Try.ntmps30
  go_wp2
  go_ret
  exact ⟨rfl, rfl⟩
theorem dread_any (w : World) (S : List Nat) (g : Nat) (d : Dsk) (h : Dok w S g d) (hd : DOk d) : Calls Try.prog 28 #[.pointer (some ⟨g, 0, none⟩)] w fun e w' => ∃ A' c', e = .returned (.slice A' d.row.length c') ∧ NewB w w' A' d.row.length c' d.row := by
  obtain ⟨A, c, h⟩ := h
  obtain ⟨h0, h1, h2, h3, h4⟩ := h.cell0
  have HY := Lib.hid (By.of_own h.2.2)
  have HD := Lib.hid hd
  clear h hd
  go_enter Try.func28, Try.ntmps28
  go_wp2_with fail
  refine (clone_any A d.row.length c d.row w HY.out HD.out.len).mono ?_
  rintro e w1 ⟨A1, c1, rfl, hN⟩
  have HN := Lib.hid hN
  clear hN
  go_wp2
  go_ret
  exact ⟨A1, c1, rfl, HN.out⟩

set_option maxHeartbeats 1000000 in
theorem dpass_any (w : World) (S : List Nat) (g : Nat) (d : Dsk) (A : Option Addr) (c : Nat) (h : DokA w S g d A c) (hd : DOk d) : Calls Try.prog 40 #[.pointer (some ⟨g, 0, none⟩)] w fun e w' => e = .returned (.bool d.passB) ∧ DokA w' S g d.passD A c ∧ Fr [g] w w' := by
  obtain ⟨h0, h1, h2, h3, h4⟩ := h.cell0
  have hz3 := h.2.1.frozen 3
  have hz4 := h.2.1.frozen 4
  have H := Lib.hid h
  have HD := Lib.hid hd
  clear h hd
  obtain ⟨row, syn, fused, left, dead⟩ := d
  rcases dead
  · rcases fused
    · go_enter Try.func40, Try.ntmps40
      go_wp2
      go_ret
      exact ⟨rfl, H.out, Fr.refl _ _⟩
    · rcases left with _ | left
      · go_enter Try.func40, Try.ntmps40
        go_wp2
        go_ret
        exact ⟨rfl, H.out.set 4 _ _ rfl rfl, (Fr.refl _ _).one (by simp) _ _⟩
      · have hl2 : (left : Int) < 9223372036854775807 := by have := HD.out.left; simp only at this; omega
        have HP : Hid (Dsk.passB ⟨row, syn, true, left + 1, false⟩ = true ∧ Dsk.passD ⟨row, syn, true, left + 1, false⟩ = ⟨row, syn, true, left, false⟩) := Lib.hid ⟨rfl, rfl⟩
        obtain ⟨L, hL⟩ : ∃ L : Int, L = ((left + 1 : Nat) : Int) := ⟨_, rfl⟩
        have h3' : w.cell? ⟨g, 3, none⟩ = some (.int .i64 L) := by rw [h3, hL]
        have hL0 : (L == 0) = false := by rw [hL]; simp; omega
        have hLw : wrap64 (L - 1) = left := by unfold wrap64; rw [hL]; omega
        have HLW := Lib.hid hLw
        clear h3 hL hl2 hLw
        go_enter Try.func40, Try.ntmps40
        go_wp2
        go_ret
        refine ⟨?_, ?_, ?_⟩
        · rw [HP.out.1]; rfl
        · rw [HP.out.2]
          exact H.out.set 3 _ _ rfl (by rw [HLW.out]; rfl)
        · exact (Fr.refl _ _).one (by simp) _ _
  · rcases fused
    · go_enter Try.func40, Try.ntmps40
      go_wp2
      go_ret
      exact ⟨rfl, H.out.set 4 _ _ rfl rfl, (Fr.refl _ _).one (by simp) _ _⟩
    · go_enter Try.func40, Try.ntmps40
      go_wp2
      go_ret
      exact ⟨rfl, H.out.set 4 _ _ rfl rfl, (Fr.refl _ _).one (by simp) _ _⟩

/-- what appending leaves of a disk -/
theorem DokA.grow {w w1 : World} {S : List Nat} {g n c c1 : Nat} {d : Dsk} {A A1 : Option Addr} {b : List UInt8} (h : DokA w S g d A c) (hb : b.length = n)
    (ho1 : w1.ownsRow 0 5 1 (.slice A1 (d.row.length + n) c1) (d.row.length + n) ((d.row ++ b).map by8)) (hg : w.grownBy w1 (Value.slice A d.row.length c).ownBlock) (hat : bk A1 = (Value.slice A d.row.length c).ownBlock.toList ∨ bk A1 = [w.heap.size]) :
    Blk w1 g 60 (d.cells A c) ∧ DokA (w1.setCell ⟨g, 0, none⟩ (.slice A1 (d.row.length + n) c1)) (g :: bk A1) g { d with row := d.row ++ b } A1 c1 ∧ Fr S w (w1.setCell ⟨g, 0, none⟩ (.slice A1 (d.row.length + n) c1)) ∧
      ∀ x ∈ g :: bk A1, x < w.heap.size → x ∈ S := by
  subst hb
  obtain ⟨rfl, hb, ho⟩ := h
  have hne := own_ne ho hb (by decide)
  have hb1 := hb.grown hg hne
  have hne1 := own_ne ho1 hb1 (by decide)
  rw [bk_own] at hat
  refine ⟨hb1, ⟨rfl, ?_, ?_⟩, ?_, ?_⟩
  · have := hb1.set 0 (.slice A1 (d.row.length + b.length) c1)
    simpa [Dsk.cells] using this
  · have := own_setCell ho1 ⟨g, 0, none⟩ hne1 (.slice A1 (d.row.length + b.length) c1)
    simpa using this
  · exact ((Fr.refl (g :: bk A) w).grown hg (fun k hk _ => by rw [bk_mem] at hk; simp [hk])).setCell _ (fun _ => by simp) _
  · intro x hx hl
    simp at hx
    rcases hx with rfl | hx
    · simp
    · rcases hat with e | e
      · rw [e] at hx; simp [hx]
      · rw [e] at hx
        simp at hx
        omega
theorem passD_row (d : Dsk) : d.passD.row = d.row := by
  unfold Dsk.passD
  split
  · split <;> rfl
  · rfl
theorem passD_syn (d : Dsk) : d.passD.syn = d.syn := by
  unfold Dsk.passD
  split
  · split <;> rfl
  · rfl
theorem DOk.pass {d : Dsk} (h : DOk d) : DOk d.passD := by
  refine ⟨by rw [passD_row, passD_syn]; exact h.syn, ?_, by rw [passD_row]; exact h.len⟩
  unfold Dsk.passD
  split
  · split
    · have := h.left; simp only; omega
    · exact h.left
  · exact h.left
theorem DOk.put {d : Dsk} (h : DOk d) (b : List UInt8) (hb : d.row.length + b.length ≤ 1073741824) : DOk (d.put b) := by
  have hp := h.pass
  unfold Dsk.put
  split
  · exact ⟨by simp only [List.length_append]; rw [passD_syn]; have := h.syn; omega, hp.left, by simpa using hb⟩
  · exact hp
theorem DOk.sync {d : Dsk} (h : DOk d) : DOk d.sync := by
  have hp := h.pass
  unfold Dsk.sync
  split
  · exact ⟨by simp only; rw [passD_row]; exact Nat.le_refl _, hp.left, hp.len⟩
  · exact hp

set_option maxHeartbeats 1000000 in
theorem dput_any (w : World) (S : List Nat) (g : Nat) (d : Dsk) (h : Dok w S g d) (hd : DOk d) (B : Option Addr) (n c : Nat) (b : List UInt8) (hy : By w B n b) (hB : ∀ x ∈ bk B, ¬ x = g) (hn : d.row.length + n ≤ 1073741824) :
    Calls Try.prog 17 #[.pointer (some ⟨g, 0, none⟩), .slice B n c] w fun e w' => e = .returned (.int .i64 (errB d.passB)) ∧ ∃ S', Dok w' S' g (d.put b) ∧ Fr S w w' ∧ ∀ x ∈ S', x < w.heap.size → x ∈ S := by
  obtain ⟨A, ca, h⟩ := h
  have H := Lib.hid h
  have HD := Lib.hid hd
  have HY := Lib.hid hy
  have HB := Lib.hid hB
  have HN := Lib.hid hn
  clear h hd hy hB hn
  go_enter Try.func17, Try.ntmps17
  go_wp2_with fail
  refine (dpass_any w S g d A ca H.out HD.out).mono ?_
  rintro e w1 ⟨rfl, hd1, hf1⟩
  have HD1 := Lib.hid hd1
  have HF1 := Lib.hid hf1
  have HYW := Lib.hid (HY.out.keep hf1 (fun a ha hm => HB.out a.block (by simp [bk, ha]) (by simpa using hm)))
  have HFS : Hid (Fr S w w1) := Lib.hid (hf1.mono (fun k hk _ => by simp at hk; subst hk; exact H.out.dok.mem))
  clear hd1 hf1
  by_cases hp : d.passB = true
  · obtain ⟨h0, -, -, -, -⟩ := HD1.out.cell0
    rw [passD_row] at h0
    have hput : d.put b = { d.passD with row := d.passD.row ++ b } := by unfold Dsk.put; rw [if_pos hp, passD_row]
    have HPUT := Lib.hid hput
    clear hput
    have HPB := Lib.hid hp
    rw [hp]
    clear hp
    go_wp2_with (at_builtin; refine Stop.mk ?_)
    refine Stop.go ?_
    refine wpList_append_bytes _ rfl (.tmp 12) (.tmp 13) _ rfl 5 Try.underlying22 info_u8 (.slice A d.row.length ca) d.row.length d.row rfl (by have h := HD1.out.2.2; rw [passD_row] at h; exact h) B n c b rfl HYW.out ?_ ?_
    · have := HN.out; omega
    intro A1 c1 w2 ho1 hg1 hat1
    have hg2 := HD1.out.grow (b := b) HYW.out.1 (by rw [passD_row]; exact ho1) (by rw [passD_row]; exact hg1) (by rw [passD_row]; exact hat1)
    rw [passD_row] at hg2
    obtain ⟨hb2, hP1, hP2, hP3⟩ := hg2
    have hc0 := hb2.cell 0
    have hz0 := hb2.frozen 0
    simp [Dsk.cells] at hc0
    rw [passD_row] at hc0
    have HP1 := Lib.hid hP1
    have HP2 := Lib.hid hP2
    have HP3 := Lib.hid hP3
    clear hP1 hP2 hP3 ho1 hg1 hat1 hb2 h0
    go_wp2
    go_ret
    refine ⟨by rw [HPB.out]; rfl, g :: bk A1, ?_, ?_, ?_⟩
    · rw [HPUT.out]; rw [passD_row]; exact HP1.out.dok
    · exact HFS.out.trans HP2.out (fun x hx _ => hx)
    · exact fun x hx hl => HP3.out x hx (Nat.lt_of_lt_of_le hl HFS.out.size)
  · have hpf : d.passB = false := by simpa using hp
    have hput : d.put b = d.passD := by unfold Dsk.put; rw [if_neg hp]
    have HPUT := Lib.hid hput
    have HPB := Lib.hid hpf
    rw [hpf]
    have HD1' := Lib.hid HD1.out.dok
    clear hput hpf hp
    go_wp2
    go_ret
    exact ⟨by rw [HPB.out]; rfl, S, by rw [HPUT.out]; exact HD1'.out, HFS.out, fun x hx _ => hx⟩
set_option maxHeartbeats 1000000 in
theorem dsync_any (w : World) (S : List Nat) (g : Nat) (d : Dsk) (h : Dok w S g d) (hd : DOk d) : Calls Try.prog 37 #[.pointer (some ⟨g, 0, none⟩)] w fun e w' => e = .returned (.int .i64 (errB d.passB)) ∧ Dok w' S g d.sync ∧ Fr [g] w w' := by
  obtain ⟨A, ca, h⟩ := h
  have H := Lib.hid h
  have HD := Lib.hid hd
  clear h hd
  go_enter Try.func37, Try.ntmps37
  go_wp2_with fail
  refine (dpass_any w S g d A ca H.out HD.out).mono ?_
  rintro e w1 ⟨rfl, hd1, hf1⟩
  have HD1 := Lib.hid hd1
  have HF1 := Lib.hid hf1
  clear hd1 hf1
  by_cases hp : d.passB = true
  · obtain ⟨h0, h1, -, -, -⟩ := HD1.out.cell0
    have hz1 := HD1.out.2.1.frozen 1
    rw [passD_row] at h0
    have hput : d.sync = { d.passD with syn := d.row.length } := by unfold Dsk.sync; rw [if_pos hp]
    have HPUT := Lib.hid hput
    have HPB := Lib.hid hp
    rw [hp]
    clear hp hput
    go_wp2
    go_ret
    refine ⟨by rw [HPB.out]; rfl, ?_, HF1.out.one (by simp) _ _⟩
    rw [HPUT.out]
    exact (HD1.out.set 1 _ { d.passD with syn := d.row.length } rfl (by simp [Dsk.cells])).dok
  · have hpf : d.passB = false := by simpa using hp
    have hput : d.sync = d.passD := by unfold Dsk.sync; rw [if_neg hp]
    have HPUT := Lib.hid hput
    have HPB := Lib.hid hpf
    rw [hpf]
    have HD1' := Lib.hid HD1.out.dok
    clear hput hpf hp
    go_wp2
    go_ret
    exact ⟨by rw [HPB.out]; rfl, by rw [HPUT.out]; exact HD1'.out, HF1.out⟩
end Go.Proofs.Ytdakilioikhhbaa
