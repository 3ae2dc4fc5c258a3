/- Package wal: a log in memory; Open and Put. -/
import Derived.Test.YtdakilioikhhbaaWal
import Derived.Test.YtdakilioikhhbaaReg2
namespace Go.Proofs.Ytdakilioikhhbaa
set_option maxRecDepth 100000
open Go.RowKit

/-- a log at block g over the disk at block gd: its records -/
def Wok (w : World) (S : List Nat) (g gd : Nat) (L : List (List UInt8)) : Prop :=
  Short L ∧ ∃ A c, S = g :: bk A ∧ Blk w g 65 #[.pointer (some ⟨gd, 0, none⟩), .slice A (rowsB L).length c, .int .i64 L.length] ∧ w.ownsRow 0 5 1 (.slice A (rowsB L).length c) (rowsB L).length ((rowsB L).map by8)
theorem Wok.keep {w w' : World} {S T : List Nat} {g gd : Nat} {L : List (List UInt8)} (h : Wok w S g gd L) (hf : Fr T w w') (hn : ∀ k ∈ S, ¬ k ∈ T) : Wok w' S g gd L := by
  obtain ⟨hs, A, c, rfl, hb, ho⟩ := h
  exact ⟨hs, A, c, rfl, hb.keep hf (hn g (by simp)), own_keep ho hf (fun k hk => hn k (by rw [bk_mem] at hk; simp [hk]))⟩
theorem Wok.lt {w : World} {S : List Nat} {g gd : Nat} {L : List (List UInt8)} (h : Wok w S g gd L) : ∀ k ∈ S, k < w.heap.size := by
  obtain ⟨_, A, c, rfl, hb, ho⟩ := h
  intro k hk
  simp at hk
  rcases hk with rfl | hk
  · exact hb.lt
  · exact own_lt ho k (by rw [bk_mem]; exact hk)
/-- a log and its disk, apart from each other -/
def Log (w : World) (T : List Nat) (g gd : Nat) (d : Dsk) (L : List (List UInt8)) : Prop :=
  ∃ SD S, T = SD ++ S ∧ Dok w SD gd d ∧ Wok w S g gd L ∧ ∀ x ∈ SD, ¬ x ∈ S
theorem Log.keep {w w' : World} {T U : List Nat} {g gd : Nat} {d : Dsk} {L : List (List UInt8)} (h : Log w T g gd d L) (hf : Fr U w w') (hn : ∀ k ∈ T, ¬ k ∈ U) : Log w' T g gd d L := by
  obtain ⟨SD, S, rfl, hd, hw, hx⟩ := h
  exact ⟨SD, S, rfl, hd.keep hf (fun k hk => hn k (by simp [hk])), hw.keep hf (fun k hk => hn k (by simp [hk])), hx⟩
theorem Log.lt {w : World} {T : List Nat} {g gd : Nat} {d : Dsk} {L : List (List UInt8)} (h : Log w T g gd d L) : ∀ k ∈ T, k < w.heap.size := by
  obtain ⟨SD, S, rfl, hd, hw, hx⟩ := h
  intro k hk
  rcases List.mem_append.1 hk with hk | hk
  · exact hd.lt k hk
  · exact hw.lt k hk
theorem Log.short {w : World} {T : List Nat} {g gd : Nat} {d : Dsk} {L : List (List UInt8)} (h : Log w T g gd d L) : Short L := by
  obtain ⟨SD, S, rfl, hd, hw, hx⟩ := h
  exact hw.1
/-- the disk alone turns -/
theorem Log.turn {w w' : World} {SD SD' S : List Nat} {g gd : Nat} {d : Dsk} {L : List (List UInt8)} (hw : Wok w S g gd L) (hx : ∀ x ∈ SD, ¬ x ∈ S) (h : Dok w' SD' gd d) (hf : Fr SD w w') (hn : ∀ x ∈ SD', x < w.heap.size → x ∈ SD) :
    Log w' (SD' ++ S) g gd d L ∧ Fr (SD ++ S) w w' ∧ ∀ x ∈ SD' ++ S, x < w.heap.size → x ∈ SD ++ S := by
  refine ⟨⟨SD', S, rfl, h, hw.keep hf (fun k hk hm => hx k hm hk), fun x hm hs => ?_⟩, hf.mono (fun k hk _ => by simp [hk]), fun x hm hl => ?_⟩
  · have := hw.lt x hs
    exact hx x (hn x hm this) hs
  · rcases List.mem_append.1 hm with hm | hm
    · simp [hn x hm hl]
    · simp [hm]

theorem wlen_any (w : World) (T : List Nat) (g gd : Nat) (d : Dsk) (L : List (List UInt8)) (h : Log w T g gd d L) :
    Calls Try.prog 13 #[.pointer (some ⟨g, 0, none⟩)] w fun e w' => e = .returned (.int .i64 L.length) ∧ w = w' := by
  obtain ⟨SD, S, rfl, hd, ⟨hs, A, c, rfl, hb, ho⟩, hx⟩ := h
  have h2 := hb.cell 2
  simp at h2
  clear hd hs hb ho hx
  go_enter Try.func13, Try.ntmps13
  go_wp2
  go_ret
  exact ⟨rfl, rfl⟩

theorem wlenW_any (w : World) (S : List Nat) (g gd : Nat) (L : List (List UInt8)) (h : Wok w S g gd L) :
    Calls Try.prog 13 #[.pointer (some ⟨g, 0, none⟩)] w fun e w' => e = .returned (.int .i64 L.length) ∧ w = w' := by
  obtain ⟨hs, A, c, rfl, hb, ho⟩ := h
  have h2 := hb.cell 2
  simp at h2
  clear hs hb ho
  go_enter Try.func13, Try.ntmps13
  go_wp2
  go_ret
  exact ⟨rfl, rfl⟩
theorem wopen_dead (w : World) (S : List Nat) (gd : Nat) (d : Dsk) (h : Dok w S gd d) (hdead : d.dead = true) :
    Calls Try.prog 9 #[.pointer (some ⟨gd, 0, none⟩)] w fun e w' => e = .returned (.tuple #[.pointer none, .int .i64 9]) ∧ w = w' := by
  have H := Lib.hid h
  clear h
  go_enter Try.func9, Try.ntmps9
  go_wp2_with fail
  refine (ddead_any w S gd d H.out).mono ?_
  rintro e w1 ⟨rfl, rfl⟩
  rw [hdead]
  go_wp2
  go_ret2
  exact ⟨rfl, rfl⟩
/-- what Open comes to: e, the disk that it leaves, and the log if there is one -/
def OpenPost (w : World) (SD : List Nat) (gd : Nat) (d : Dsk) (L : List (List UInt8)) (e : Ending) (w' : World) : Prop :=
  (d.settleB (rowsB L).length = false ∧ e = .returned (.tuple #[.pointer none, .int .i64 9]) ∧ Dok w' SD gd (d.settle (rowsB L).length) ∧ Fr [gd] w w') ∨
  (d.settleB (rowsB L).length = true ∧ ∃ g S, e = .returned (.tuple #[.pointer (some ⟨g, 0, none⟩), .int .i64 0]) ∧ Log w' (SD ++ S) g gd (d.settle (rowsB L).length) L ∧ Fr [gd] w w' ∧ ∀ x ∈ S, w.heap.size ≤ x)
set_option maxHeartbeats 1000000 in
theorem wopen_any (w : World) (SD : List Nat) (gd : Nat) (d : Dsk) (h : Dok w SD gd d) (hd : DOk d) (hdead : d.dead = false) (L : List (List UInt8)) (T : List UInt8) (hs : Split d.row L T) :
    Calls Try.prog 9 #[.pointer (some ⟨gd, 0, none⟩)] w (OpenPost w SD gd d L) := by
  have H := Lib.hid h
  have HD := Lib.hid hd
  have HDD := Lib.hid hdead
  have HS := Lib.hid hs
  have HK : Hid ((rowsB L).length ≤ d.row.length) := Lib.hid (by rw [hs.eq, List.length_append]; omega)
  clear h hd hs
  go_enter Try.func9, Try.ntmps9
  go_wp2_with fail
  refine (ddead_any w SD gd d H.out).mono ?_
  rintro e w1 ⟨rfl, rfl⟩
  rw [hdead]
  clear hdead
  go_wp2_with fail
  refine (dread_any w SD gd d H.out HD.out).mono ?_
  rintro e w1 ⟨A1, c1, rfl, hN1⟩
  have HN1 := Lib.hid hN1
  have H1 := Lib.hid (H.out.keep hN1.2.1 (by simp))
  clear hN1
  go_wp2_with fail
  refine (whole_any A1 d.row.length c1 d.row w1 HN1.out.by HD.out.len L T HS.out).mono ?_
  rintro e w2 ⟨rfl, hf2⟩
  have H2 := Lib.hid (H1.out.keep hf2 (by simp))
  have HF2 := Lib.hid (HN1.out.2.1.and hf2 (by simp))
  clear hf2
  have HSR : Hid (d.settleB (rowsB L).length = true → (d.settle (rowsB L).length).row = rowsB L) := Lib.hid (fun h => by
    rw [settle_row HK.out h, HS.out.eq, List.take_left])
  have HSD := Lib.hid (HD.out.settle HK.out)
  go_wp2_with fail
  refine (settle_any w2 SD gd d H2.out HD.out HDD.out _ HK.out).mono ?_
  rintro e w3 ⟨rfl, hd3, hf3⟩
  have HF3 : Hid (Fr [gd] w w3) := Lib.hid ((HF2.out.mono (T := [gd]) (by simp)).trans hf3 (fun x hx _ => hx))
  have H3 := Lib.hid hd3
  clear hd3 hf3
  cases hb : d.settleB (rowsB L).length
  · have HB := Lib.hid hb
    rw [show errB false = 9 from rfl]
    clear hb
    go_wp2
    go_ret2
    exact .inl ⟨HB.out, rfl, H3.out, HF3.out⟩
  · have HB := Lib.hid hb
    have hrow := HSR.out hb
    rw [show errB true = 0 from rfl]
    have HRW := Lib.hid hrow
    clear hb hrow
    go_wp2_with fail
    refine (dread_any w3 SD gd _ H3.out HSD.out).mono ?_
    rintro e w4 ⟨A4, c4, rfl, hN4⟩
    rw [HRW.out] at hN4 ⊢
    have HN4 := Lib.hid hN4
    have HF4 : Hid (Fr [gd] w w4) := Lib.hid (HF3.out.trans hN4.2.1 (by simp))
    have H4 := Lib.hid (H3.out.keep hN4.2.1 (by simp))
    clear hN4
    go_wp2
    go_ret2
    refine .inr ⟨HB.out, w4.heap.size, w4.heap.size :: bk A4, rfl, ⟨SD, _, rfl, H4.out.keep ((Fr.refl [] w4).alloc _) (by simp), ⟨HS.out.short, A4, c4, rfl, Blk.new _ _ _, own_keep HN4.out.1 ((Fr.refl [] w4).alloc _) (by simp)⟩, ?_⟩, HF4.out.alloc _, ?_⟩
    · intro x hx hm
      have h1 := H3.out.lt x hx
      have h2 := H4.out.lt x hx
      simp at hm
      rcases hm with rfl | hm
      · omega
      · have := HN4.out.2.2 x hm; omega
    · intro x hx
      have h1 := HF4.out.size
      have h2 := HF3.out.size
      simp at hx
      rcases hx with rfl | hx
      · exact h1
      · have := HN4.out.2.2 x hx; omega

/-! ### Put -/
/-- what putting a record makes of the disk, and whether it goes through -/
def Dsk.logD (d : Dsk) (b : List UInt8) : Dsk := if d.passB then (d.put (rowB b)).sync else d.put (rowB b)
def Dsk.logB (d : Dsk) (b : List UInt8) : Bool := d.passB && (d.put (rowB b)).passB
def Dsk.logL (d : Dsk) (b : List UInt8) (L : List (List UInt8)) : List (List UInt8) := if d.logB b then L ++ [b] else L
def PutPost (w : World) (T : List Nat) (g gd : Nat) (d : Dsk) (L : List (List UInt8)) (b : List UInt8) (e : Ending) (w' : World) : Prop :=
  e = .returned (.int .i64 (errB (d.logB b))) ∧ ∃ T', Log w' T' g gd (d.logD b) (d.logL b L) ∧ Fr T w w' ∧ ∀ x ∈ T', x < w.heap.size → x ∈ T
theorem PutPost.no {w : World} {T : List Nat} {g gd : Nat} {d d' : Dsk} {L : List (List UInt8)} {b : List UInt8} {w' : World} {v : Value} {T' : List Nat} (h : d.logB b = false ∧ d.logD b = d') (hv : v = .int .i64 9)
    (h1 : Log w' T' g gd d' L) (h2 : Fr T w w') (h3 : ∀ x ∈ T', x < w.heap.size → x ∈ T) : PutPost w T g gd d L b (.returned v) w' := by
  subst hv
  have hl : d.logL b L = L := by unfold Dsk.logL; rw [h.1]; rfl
  unfold PutPost
  rw [h.1, h.2, hl]
  exact ⟨rfl, T', h1, h2, h3⟩
theorem PutPost.yes {w : World} {T : List Nat} {g gd : Nat} {d d' : Dsk} {L : List (List UInt8)} {b : List UInt8} {w' : World} {v : Value} {T' : List Nat} (h : d.logB b = true ∧ d.logD b = d') (hv : v = .int .i64 0)
    (h1 : Log w' T' g gd d' (L ++ [b])) (h2 : Fr T w w') (h3 : ∀ x ∈ T', x < w.heap.size → x ∈ T) : PutPost w T g gd d L b (.returned v) w' := by
  subst hv
  have hl : d.logL b L = L ++ [b] := by unfold Dsk.logL; rw [h.1]; rfl
  unfold PutPost
  rw [h.1, h.2, hl]
  exact ⟨rfl, T', h1, h2, h3⟩
theorem wput_big (w : World) (g : Nat) (A : Option Addr) (n c : Nat) (hn : 65536 < n) :
    Calls Try.prog 12 #[.pointer (some ⟨g, 0, none⟩), .slice A n c] w fun e w' => e = .returned (.int .i64 7) ∧ w = w' := by
  go_enter Try.func12, Try.ntmps12
  go_wp2
  go_ret
  exact ⟨rfl, rfl⟩
set_option maxHeartbeats 2000000 in
theorem wput_any (w : World) (T : List Nat) (g gd : Nat) (d : Dsk) (L : List (List UInt8)) (h : Log w T g gd d L) (hd : DOk d) (B : Option Addr) (n c : Nat) (b : List UInt8) (hy : By w B n b) (hB : ∀ x ∈ bk B, ¬ x ∈ T ∧ x < w.heap.size) (hn : n ≤ 65536) (hl1 : d.row.length ≤ 1000000000) (hl2 : (rowsB L).length ≤ 1000000000) :
    Calls Try.prog 12 #[.pointer (some ⟨g, 0, none⟩), .slice B n c] w (PutPost w T g gd d L b) := by
  have hbl := hy.1
  have HL1 := Lib.hid hl1
  have HL2 := Lib.hid hl2
  have HLR : Hid ((rowB b).length ≤ 65546) := Lib.hid (by have := rowB_len b (by omega); omega)
  have HSN : Hid (Short L → Short (L ++ [b])) := Lib.hid (fun h => h.snoc (by omega))
  have HCN : Hid (L.length ≤ 1000000000) := Lib.hid (by have := rowsB_count L; omega)
  obtain ⟨SD, S, rfl, hdk, hw, hx⟩ := h
  have HDK := Lib.hid hdk
  have HW := Lib.hid hw
  have HX := Lib.hid hx
  have HD := Lib.hid hd
  have HY := Lib.hid hy
  have HB := Lib.hid hB
  have HDP := Lib.hid (hd.put (rowB b) (by have := HLR.out; omega))
  have hn2 : (n : Int) ≤ 65536 := by omega
  have hrow : enc n ++ b = rowB b := by rw [← hbl]; rfl
  clear hdk hw hx hd hy hB hl1 hl2 hbl
  go_enter Try.func12, Try.ntmps12
  go_wp2_with fail
  refine (newWriter_any w).mono ?_
  rintro e w1 ⟨rfl, hw1, hf1⟩
  have HW1 := Lib.hid hw1
  have HF1 := Lib.hid hf1
  clear hw1 hf1
  go_wp2_with fail
  refine (row_any B n c b w1 (HY.out.keep HF1.out (by simp)) (by omega) [w.heap.size] (fun k hk hm => by
    simp at hm
    have := (HB.out k hk).2
    omega) w.heap.size [] HW1.out (by simp)).mono ?_
  rintro e w2 ⟨rfl, S2, hw2, hf2, hs2⟩
  rw [List.nil_append, hrow] at hw2
  have HW2 := Lib.hid hw2
  have HF2 : Hid (Fr [] w w2) := Lib.hid (HF1.out.trans hf2 (by intro x hx hl; simp at hx; omega))
  clear hw2 hf2 hs2 hrow
  go_wp2_with fail
  refine (bytes_any w2 S2 _ _ HW2.out (by have := HLR.out; omega)).mono ?_
  rintro e w3 ⟨A3, c3, rfl, hN3⟩
  have HF3 := Lib.hid (HF2.out.and hN3.2.1 (by simp))
  have HN3 := Lib.hid hN3
  clear hN3
  have HSD : Hid (∀ x ∈ SD, x < w.heap.size) := Lib.hid HDK.out.lt
  have HSW : Hid (∀ x ∈ S, x < w.heap.size) := Lib.hid HW.out.lt
  have H3 : Hid (∀ x ∈ bk A3, w.heap.size ≤ x) := Lib.hid (fun x hx => Nat.le_trans HF2.out.size (HN3.out.2.2 x hx))
  have HDK3 := Lib.hid (HDK.out.keep HF3.out (by simp))
  have HWK3 := Lib.hid (HW.out.keep HF3.out (by simp))
  have hgd := HDK.out.mem
  have HGD := Lib.hid hgd
  obtain ⟨hsh, A, ca, hSeq, hbw, how⟩ := HWK3.out
  have hc0 := hbw.cell 0
  simp at hc0
  have HSEQ := Lib.hid hSeq
  have HSH := Lib.hid hsh
  clear hgd hSeq hbw how hsh
  go_wp2_with fail
  refine (dput_any w3 SD gd d HDK3.out HD.out A3 _ c3 (rowB b) HN3.out.by (fun x hx he => by have := H3.out x hx; have := HSD.out gd HGD.out; omega) (by have := HL1.out; have := HLR.out; omega)).mono ?_
  rintro e w4 ⟨rfl, SD4, hd4, hf4, hs4⟩
  have HD4 := Lib.hid hd4
  have HF4 := Lib.hid hf4
  have HS4 := Lib.hid hs4
  have HWK4 := Lib.hid (HWK3.out.keep hf4 (fun k hk hm => HX.out k hm hk))
  have HN4 := Lib.hid (HN3.out.by.keep hf4 (fun a ha hm => by have := H3.out a.block (by simp [bk, ha]); have := HSD.out _ hm; omega))
  have HX4 : Hid (∀ x ∈ SD4, ¬ x ∈ S) := Lib.hid (fun x hx hm => by
    have h1 := HSW.out x hm
    have h2 := HF3.out.size
    exact HX.out x (hs4 x hx (by omega)) hm)
  have HG4 : Hid (Fr (SD ++ S) w w4) := Lib.hid ((HF3.out.mono (T := SD ++ S) (by simp)).trans hf4 (fun x hx _ => by simp [hx]))
  have HM4 : Hid (∀ x ∈ SD4 ++ S, x < w.heap.size → x ∈ SD ++ S) := Lib.hid (fun x hx hl => by
    rcases List.mem_append.1 hx with hx | hx
    · have h2 := HF3.out.size
      simp [hs4 x hx (by omega)]
    · simp [hx])
  clear hd4 hf4 hs4
  cases hp : d.passB
  · have HP : Hid (d.logB b = false ∧ d.logD b = d.put (rowB b)) := Lib.hid ⟨by simp [Dsk.logB, hp], by simp [Dsk.logD, hp]⟩
    rw [show errB false = 9 from rfl]
    clear hp
    go_wp2
    go_ret
    exact PutPost.no HP.out rfl ⟨SD4, S, rfl, HD4.out, HWK4.out, HX4.out⟩ HG4.out HM4.out
  · have HP : Hid (d.logB b = (d.put (rowB b)).passB ∧ d.logD b = (d.put (rowB b)).sync) := Lib.hid ⟨by simp [Dsk.logB, hp], by simp [Dsk.logD, hp]⟩
    rw [show errB true = 0 from rfl]
    clear hp
    generalize d.put (rowB b) = d1 at *
    obtain ⟨_, A4, ca4, hSeq4, hbw4, how4⟩ := HWK4.out
    have hc0 := hbw4.cell 0
    simp at hc0
    clear hSeq4 hbw4 how4
    go_wp2_with fail
    refine (dsync_any w4 SD4 gd d1 HD4.out HDP.out).mono ?_
    rintro e w5 ⟨rfl, hd5, hf5⟩
    have HD5 := Lib.hid hd5
    have HGD4 := Lib.hid HD4.out.mem
    have HWK5 := Lib.hid (HWK4.out.keep hf5 (fun k hk hm => by simp at hm; subst hm; exact HX4.out k HGD4.out hk))
    have HN5 := Lib.hid (HN4.out.keep hf5 (fun a ha hm => by have := H3.out a.block (by simp [bk, ha]); simp at hm; have := HSD.out gd HGD.out; omega))
    have HG5 : Hid (Fr (SD ++ S) w w5) := Lib.hid (HG4.out.trans hf5 (fun x hx _ => by simp at hx; subst hx; simp [HGD.out]))
    clear hd5 hf5
    cases hq : d1.passB
    · rw [show errB false = 9 from rfl]
      rw [hq] at HP
      clear hq
      go_wp2
      go_ret
      exact PutPost.no HP.out rfl ⟨SD4, S, rfl, HD5.out, HWK5.out, HX4.out⟩ HG5.out HM4.out
    · rw [show errB true = 0 from rfl]
      rw [hq] at HP
      clear hq
      obtain ⟨_, A5, c5, hSeq5, hbw5, how5⟩ := HWK5.out
      have hc1 := hbw5.cell 1
      have hz1 := hbw5.frozen 1
      simp at hc1
      have HS5 := Lib.hid hSeq5
      clear hSeq5
      go_wp2_with (at_builtin; refine Stop.mk ?_)
      refine Stop.go ?_
      refine wpList_append_bytes _ rfl (.tmp 36) (.tmp 37) _ rfl 5 Try.underlying22 info_u8 (.slice A5 (rowsB L).length c5) (rowsB L).length (rowsB L) rfl how5 A3 _ c3 (rowB b) rfl HN5.out (by have := HL2.out; have := HLR.out; omega) ?_
      intro A6 c6 w6 ho6 hg6 hat6
      have hne : (Value.slice A5 (rowsB L).length c5).ownBlock ≠ some g := own_ne how5 hbw5 (by decide)
      have hb6 := hbw5.grown hg6 hne
      have hne6 := own_ne ho6 hb6 (by decide)
      have hk1 := hb6.cell 1
      have hzz1 := hb6.frozen 1
      have hb7 := hb6.set 1 (.slice A6 ((rowsB L).length + (rowB b).length) c6)
      have hk2 := hb7.cell 2
      have hzz2 := hb7.frozen 2
      have hb8 := hb7.set 2 (.int .i64 ((L.length : Int) + 1))
      simp at hk1 hk2
      have HB8 := Lib.hid hb8
      have HO8 := Lib.hid (own_setCell (own_setCell ho6 ⟨g, 1, none⟩ hne6 (.slice A6 ((rowsB L).length + (rowB b).length) c6)) ⟨g, 2, none⟩ hne6 (.int .i64 ((L.length : Int) + 1)))
      have HF8 : Hid (Fr S w5 ((w6.setCell ⟨g, 1, none⟩ (.slice A6 ((rowsB L).length + (rowB b).length) c6)).setCell ⟨g, 2, none⟩ (.int .i64 ((L.length : Int) + 1)))) := Lib.hid (by
        rw [HS5.out]
        exact (((Fr.refl _ w5).grown hg6 (fun k hk _ => by rw [bk_mem] at hk; simp [hk])).one (by simp) 1 _).one (by simp) 2 _)
      have HAT : Hid (∀ x ∈ g :: bk A6, x < w5.heap.size → x ∈ S) := Lib.hid (fun x hx hl => by
        rw [HS5.out]
        simp at hx
        rcases hx with rfl | hx
        · simp
        · rw [bk_own] at hat6
          rcases hat6 with e | e
          · rw [e] at hx; simp [hx]
          · rw [e] at hx; simp at hx; omega)
      have hln : wrap64 ((L.length : Int) + 1) = (L.length : Int) + 1 := by
        have := HCN.out
        unfold wrap64
        omega
      have HLN : Hid ((((L ++ [b]).length : Nat) : Int) = (L.length : Int) + 1) := Lib.hid (by simp)
      have hbl5 := HD5.out.lt
      have HBL5 := Lib.hid hbl5
      have HLX : Hid (rowsB (L ++ [b]) = rowsB L ++ rowB b ∧ (rowsB (L ++ [b])).length = (rowsB L).length + (rowB b).length) := Lib.hid ⟨rowsB_snoc L b, by rw [rowsB_snoc, List.length_append]⟩
      have HLB : Hid (w.heap.size ≤ w5.heap.size) := Lib.hid HG5.out.size
      clear hb6 hb7 hb8 ho6 hg6 hat6 hne hne6 hbw5 how5 hc1 hz1 hbl5
      go_wp2
      all_goals
        go_ret
        refine PutPost.yes HP.out rfl (T' := SD4 ++ (g :: bk A6)) ⟨SD4, _, rfl, HD5.out.keep HF8.out (fun x hx hm => HX4.out x hx hm), ⟨HSN.out (HW.out.1), A6, c6, rfl, ?_, ?_⟩, ?_⟩ (HG5.out.trans HF8.out (fun x hx _ => by simp [hx])) ?_
        · rw [HLX.out.2, HLN.out]; exact HB8.out
        · rw [HLX.out.1, List.length_append]; exact HO8.out
        · intro x hx hm
          exact HX4.out x hx (HAT.out x hm (HBL5.out x hx))
        · intro x hx hl
          rcases List.mem_append.1 hx with hx | hx
          · exact HM4.out x (by simp [hx]) hl
          · simp [HAT.out x hx (by have := HLB.out; omega)]
end Go.Proofs.Ytdakilioikhhbaa
