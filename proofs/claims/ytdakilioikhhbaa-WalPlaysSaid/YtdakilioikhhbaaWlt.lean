/- WalTrue: the walk. -/
import Derived.Test.YtdakilioikhhbaaWlj
import Derived.Test.YtdakilioikhhbaaApf
import Derived.Test.YtdakilioikhhbaaActs8
import Derived.Deep.CutBlock
namespace Go.Proofs.Ytdakilioikhhbaa
set_option maxRecDepth 100000
open Go.RowKit

theorem Act8V.in_blk {w : World} {g : Nat} {t : TypeId} {v : Act8V} (hb : Blk w g t v.cells.toArray) :
    w.cell? ⟨g, 0, none⟩ = some (.int .i64 v.d) ∧ w.cell? ⟨g, 1, none⟩ = some (.int .i64 v.q) ∧ w.cell? ⟨g, 2, none⟩ = some (.slice v.A v.m v.c) :=
  ⟨by rw [hb.cell 0]; rfl, by rw [hb.cell 1]; rfl, by rw [hb.cell 2]; rfl⟩
theorem own_cap {w : World} {e : TypeId} {A : Option Addr} {n c : Nat} {xs : List Value} (h : w.ownsRow 0 e 1 (.slice A n c) n xs) : n ≤ c := by
  rcases h.2 with ⟨h1, h2⟩ | ⟨g, cap, cur, hv, _, _, hc, _⟩
  · injection h1; omega
  · injection hv; omega
theorem Rl.cells {w : World} {A : Option Addr} {n : Nat} {rs : List RowV} (h : Rl w A n rs) (hn : 0 < n) : ∃ b, A = some b ∧ ∀ j u, (rs.map RowV.val)[j]? = some u → w.cell? (b.add j) = some u := by
  obtain ⟨ad, e, hc⟩ := h.2 hn
  refine ⟨ad, e, fun j u hu => ?_⟩
  rw [List.getElem?_map] at hu
  cases hr : rs[j]? with
  | none => rw [hr] at hu; cases hu
  | some r =>
    rw [hr] at hu
    injection hu with hu
    subst hu
    exact (hc j r hr).2
theorem GL.snoc {w w' : World} {U : List Nat} {A A4 : Option Addr} {n l c4 x c : Nat} {rs : List RowV} {b : List UInt8} (h : GL w U A n rs) (hf : Fr [] w w') (hU : ∀ x ∈ U, x < w.heap.size) (hx : w.heap.size ≤ x)
    (ho : w'.ownsRow 0 22 1 (.slice (some ⟨x, 0, none⟩) (n + 1) c) (n + 1) (rs.map RowV.val ++ [.slice A4 l c4])) (hy : By w A4 l b) (h4 : ∀ x ∈ bk A4, ¬ x ∈ U ∧ x < w.heap.size) :
    GL w' U (some ⟨x, 0, none⟩) (n + 1) (rs ++ [⟨A4, l, c4, b⟩]) := by
  have ho2 : w'.ownsRow 0 22 1 (.slice (some ⟨x, 0, none⟩) (n + 1) c) (n + 1) ((rs ++ [(⟨A4, l, c4, b⟩ : RowV)]).map RowV.val) := by simpa [RowV.val] using ho
  have hxl := own_lt ho x (by simp [Value.ownBlock])
  refine ⟨Rl.own ho2 (fun r hr => ?_), fun y hy' => ?_⟩
  · rcases List.mem_append.1 hr with hr | hr
    · obtain ⟨i, hi⟩ := List.mem_iff_getElem?.1 hr
      have hn : 0 < n := by have h1 := (List.getElem?_eq_some_iff.1 hi).1; have h2 := h.1.1; omega
      obtain ⟨ad, _, hc⟩ := h.1.2 hn
      exact (hc i r hi).1.keep hf (by simp)
    · simp at hr
      subst hr
      exact hy.keep hf (by simp)
  · have hsz := hf.size
    rcases mem_blks.1 hy' with hm | ⟨r, hr, hm⟩
    · simp [bk] at hm
      subst hm
      exact ⟨fun hu => by have := hU _ hu; omega, hxl⟩
    · rcases List.mem_append.1 hr with hr | hr
      · have h1 := h.2 y (mem_blks.2 (.inr ⟨r, hr, hm⟩))
        exact ⟨h1.1, by omega⟩
      · simp at hr
        subst hr
        have h1 := h4 y hm
        exact ⟨h1.1, by omega⟩
theorem wrecords_gl (w : World) (T : List Nat) (g gd : Nat) (d : Dsk) (L : List (List UInt8)) (h : Log w T g gd d L) (hl : (rowsB L).length ≤ 1000000000) (T' : List Nat) (hT : ∀ x ∈ T', x < w.heap.size) (n : Nat) (hn : L.length = n) :
    Calls Try.prog 14 #[.pointer (some ⟨g, 0, none⟩)] w fun e w' => ∃ ad rs, e = .returned (.slice (some ad) n n) ∧ GL w' T' (some ad) n rs ∧ rs.map (·.b) = L ∧ Fr [] w w' := by
  subst hn
  refine (wrecords_any w T g gd d L h hl).mono ?_
  rintro e w' ⟨gr, rr, rfl, hbr, hrr, hyr, hgr, hfr⟩
  refine ⟨_, rr, rfl, ⟨?_, ?_⟩, hrr, hfr⟩
  · have := Rl.blk hbr (fun r hr => (hyr r hr).1)
    rw [show L.length = rr.length by rw [← hrr, List.length_map]]
    exact this
  · intro x hx
    rcases mem_blks.1 hx with hx | ⟨r, hr, hx⟩
    · simp [bk] at hx
      subst hx
      exact ⟨fun hm => by have := hT _ hm; omega, hbr.lt⟩
    · have := (hyr r hr).2 x hx
      exact ⟨fun hm => by have := hT _ hm; omega, this.2⟩
theorem Log.fuse {w : World} {T : List Nat} {g gd : Nat} {d : Dsk} {L : List (List UInt8)} (h : Log w T g gd d L) :
    ∃ SD, Dok w SD gd d ∧ gd ∈ T ∧ (∀ x ∈ SD, x ∈ T) ∧ ∀ w' d', Dok w' SD gd d' → Fr [gd] w w' → Log w' T g gd d' L := by
  obtain ⟨SD, S, rfl, hd, hw, hx⟩ := h
  refine ⟨SD, hd, by simp [hd.mem], fun x hx => by simp [hx], fun w' d' hd' hf => ⟨SD, S, rfl, hd', hw.keep hf (fun k hk hm => ?_), hx⟩⟩
  simp at hm
  subst hm
  exact hx k hd.mem hk

/-- what holds between two steps of WalTrue's loop -/
structure LT (w wr : World) (T : List Nat) (g gd : Nat) (d : Dsk) (A6 : Option Addr) (m6 c6 : Nat) (rs : List RowV) (A7 : Option Addr) (m7 c7 : Nat) (ns : List RowV) (k : Nat) : Prop where
  log : Log wr T g gd d (rs.map (·.b))
  j : Jl d (rs.map (·.b)) (ns.map (·.b))
  t : ∀ x ∈ T, w.heap.size ≤ x
  gl : GL wr (T ++ bk A7) A6 m6 rs
  cap : m6 ≤ c6
  own : wr.ownsRow 0 22 1 (.slice A7 m7 c7) m7 (ns.map RowV.val)
  bk7 : ∀ x ∈ bk A7, w.heap.size ≤ x
  ok : RowsOk wr T ns
  sh : (∀ b ∈ rs.map (·.b), b.length ≤ 100) ∧ ∀ b ∈ ns.map (·.b), b.length ≤ 100
  cnt : m6 ≤ k ∧ m7 ≤ k ∧ k ≤ 25
  fr : Fr [] w wr
section
variable {w wr w' : World} {T : List Nat} {g gd : Nat} {d : Dsk} {A6 : Option Addr} {m6 c6 : Nat} {rs : List RowV} {A7 : Option Addr} {m7 c7 : Nat} {ns : List RowV} {k : Nat}
theorem LT.keep (h : LT w wr T g gd d A6 m6 c6 rs A7 m7 c7 ns k) (hf : Fr [] wr w') : LT w w' T g gd d A6 m6 c6 rs A7 m7 c7 ns k :=
  ⟨h.log.keep hf (by simp), h.j, h.t, h.gl.keep hf (by simp) (fun _ hx _ => hx), h.cap, own_keep h.own hf (by simp), h.bk7, h.ok.keep (S' := T) hf (by simp) (fun _ hx _ => hx), h.sh, h.cnt, h.fr.and hf (by simp)⟩
theorem LT.lens (h : LT w wr T g gd d A6 m6 c6 rs A7 m7 c7 ns k) : rs.length = m6 ∧ (rs.map (·.b)).length = m6 ∧ ns.length = m7 := ⟨h.gl.1.1, by rw [List.length_map]; exact h.gl.1.1, by have := h.own.1; simpa using this⟩
theorem LT.rows (h : LT w wr T g gd d A6 m6 c6 rs A7 m7 c7 ns k) : (rowsB (rs.map (·.b))).length ≤ 2750 ∧ d.row.length ≤ 3000 := by
  have h1 := rowsB_lenM 100 (by omega) _ h.sh.1
  have h2 := h.lens.2.1
  have h3 := h.cnt
  have h4 := h.j.len h.sh.2 (by omega)
  omega
theorem LT.dok (h : LT w wr T g gd d A6 m6 c6 rs A7 m7 c7 ns k) : DOk d := h.j.dok (by have := h.rows; omega)
theorem LT.fuse (h : LT w wr T g gd d A6 m6 c6 rs A7 m7 c7 ns k) (q : Nat) (hq : q ≤ 10) (hl : Log w' T g gd { d with fused := true, left := q } (rs.map (·.b))) (hf : Fr [gd] wr w') (hg : gd ∈ T) (hk : k + 1 ≤ 25) :
    LT w w' T g gd { d with fused := true, left := q } A6 m6 c6 rs A7 m7 c7 ns (k + 1) := by
  have hap := log_apart h.log h.own
  exact ⟨hl, h.j.fuse q (by omega), h.t, h.gl.keep hf (fun x hx => by simp at hx; subst hx; simp [hg]) (fun _ hx _ => hx), h.cap, own_keep h.own hf (fun x hx hm => by simp at hm; subst hm; exact hap x (by rw [bk_mem] at hx; exact hx) hg), h.bk7,
    h.ok.keep (S' := T) hf (fun r hr x hx hm => by simp at hm; subst hm; exact (h.ok r hr).2 x hx hg) (fun _ hx _ => hx), h.sh, by have := h.cnt; omega, h.fr.trans hf (fun x hx hl => by simp at hx; subst hx; have := h.t x hg; omega)⟩
/-- a log that was written on -/
structure LP (w wr w' : World) (T T' : List Nat) (g gd : Nat) (A6 : Option Addr) (m6 : Nat) (rs : List RowV) (A7 : Option Addr) (m7 c7 : Nat) (ns : List RowV) : Prop where
  t : ∀ x ∈ T', w.heap.size ≤ x
  gl : GL w' (T' ++ bk A7) A6 m6 rs
  own : w'.ownsRow 0 22 1 (.slice A7 m7 c7) m7 (ns.map RowV.val)
  ok : RowsOk w' T' ns
  fr : Fr [] w w'
theorem LT.put (h : LT w wr T g gd d A6 m6 c6 rs A7 m7 c7 ns k) {T' : List Nat} (hf : Fr T wr w') (ht : ∀ x ∈ T', x < wr.heap.size → x ∈ T) : LP w wr w' T T' g gd A6 m6 rs A7 m7 c7 ns := by
  have hap := log_apart h.log h.own
  have h7 : ∀ x ∈ bk A7, x < wr.heap.size := fun x hx => own_lt h.own x (by rw [bk_mem]; exact hx)
  refine ⟨fun x hx => ?_, h.gl.keep hf (fun x hx => by simp [hx]) (fun x hx hl => ?_), own_keep h.own hf (fun x hx hm => hap x (by rw [bk_mem] at hx; exact hx) hm), h.ok.keep (S' := T') hf (fun r hr x hx hm => (h.ok r hr).2 x hx hm) ht, h.fr.trans hf (fun x hx hl => by have := h.t x hx; omega)⟩
  · by_cases hl : x < wr.heap.size
    · exact h.t x (ht x hx hl)
    · have := h.fr.size; omega
  · rcases List.mem_append.1 hx with hx | hx
    · simp [ht x hx hl]
    · simp [hx]
end

set_option maxHeartbeats 20000000 in
theorem walTrue_walk (w : World) (A : Option Addr) (n c : Nat) (l : List Act8V) (hA : Acts8 w A n l) (hn : n ≤ c) (hc : c ≤ maxLen) :
    Calls Try.prog 5 #[.slice A n c] w fun e w' => e = .returned (.bool true) ∧ Fr [] w w' := by
  have HA := Lib.hid hA
  have hn1 : (n : Int) ≤ 9223372036854775807 := by unfold maxLen at hc; omega
  clear hA hn hc
  go_enter Try.func5, Try.ntmps5
  go_wp2_with fail
  refine (dnew_any w).mono ?_
  rintro e w1 ⟨rfl, hd1, hf1⟩
  have HD1 : Hid (Dok w1 [w.heap.size] w.heap.size (cl [])) := Lib.hid hd1
  have HF1 := Lib.hid hf1
  clear hd1 hf1
  generalize hg : w.heap.size = gd at *
  have HG := Lib.hid hg
  clear hg
  go_wp2_with fail
  refine (cl_open w1 [gd] gd [] HD1.out (by intro b hb; simp at hb) (by simp [rowsB])).mono ?_
  rintro e w2 ⟨g0, S, rfl, hl2, hf2, hs2⟩
  have HLT0 : Hid (LT w w2 ([gd] ++ S) g0 gd (cl []) none 0 0 [] none 0 0 [] 0) := Lib.hid ⟨hl2, Jl.start, fun x hx => by
      rcases List.mem_append.1 hx with hx | hx
      · simp at hx; have := HG.out; omega
      · have := hs2 x hx; have := HF1.out.size; omega,
    GL.nil _ _, Nat.le_refl _, ⟨rfl, .inl ⟨rfl, rfl⟩⟩, by simp [bk], by intro r hr; simp at hr, ⟨by intro b hb; simp at hb, by intro b hb; simp at hb⟩, by omega, HF1.out.trans hf2 (by intro x hx hl; simp at hx; have := HG.out; omega)⟩
  clear hl2 hf2 hs2 HD1 HF1
  generalize [gd] ++ S = T0 at *
  go_wp2_with fail
  go_loopw [4, 6, 7, 8] (fun s4 s6 s7 i wr => ∃ (k : Nat) (T : List Nat) (g : Nat) (d : Dsk) (A6 : Option Addr) (m6 c6 : Nat) (rs : List RowV) (A7 : Option Addr) (m7 c7 : Nat) (ns : List RowV), k ≤ n ∧ k ≤ 25 ∧ i = .int .i64 k ∧ s4 = .pointer (some ⟨g, 0, none⟩) ∧ s6 = .slice A6 m6 c6 ∧ s7 = .slice A7 m7 c7 ∧
    Hid (LT w wr T g gd d A6 m6 c6 rs A7 m7 c7 ns k)) (fun _ _ _ i _ => 25 - (intOf i).toNat)
  case atStart => exact ⟨0, T0, g0, cl [], none, 0, 0, [], none, 0, 0, [], by omega, by omega, rfl, rfl, rfl, rfl, HLT0⟩
  case round =>
    obtain ⟨k, T, g, d, A6, m6, c6, rs, A7, m7, c7, ns, hk, hk25, rfl, rfl, rfl, rfl, HLT⟩ := hrel
    clear HLT0
    by_cases hlt : k < n ∧ k < 25
    · obtain ⟨hkn, hk2⟩ := hlt
      obtain ⟨ad, v, rfl, hgv, hok, hcells⟩ := HA.out.at HLT.out.fr.below_all hkn
      have HOK := Lib.hid hok
      have HCELLS := Lib.hid hcells
      have hk0 : (0 : Int) ≤ k := by omega
      clear hgv hok hcells
      go_upto_block 1 with (fail)
      go_cut [4, 6, 7] (fun s4 s6 s7 wx => ∃ (T : List Nat) (g : Nat) (d : Dsk) (A6 : Option Addr) (m6 c6 : Nat) (rs : List RowV) (A7 : Option Addr) (m7 c7 : Nat) (ns : List RowV), s4 = .pointer (some ⟨g, 0, none⟩) ∧ s6 = .slice A6 m6 c6 ∧ s7 = .slice A7 m7 c7 ∧ Hid (LT w wx T g gd d A6 m6 c6 rs A7 m7 c7 ns (k + 1)))
      case first =>
        go_wp2_with (first
          | (refine wpList_load_cells rfl 46 _ rfl (ad.add (k * 3)) rfl v.cells _ (fun j x hx => by rw [add_add]; exact HCELLS.out j x hx) Try.underlying46 rfl (by rw [act8_size]; rfl) ?_)
          | (refine wpList_store_box rfl 46 _ _ rfl _ 46 v.cells rfl rfl (by rw [act8_size]; rfl) rfl v.one ?_
             intro wb hblk hfb
             obtain ⟨hc0, hc1, hc2⟩ := Act8V.in_blk hblk
             have HBLK := Lib.hid hblk
             have HFB := Lib.hid hfb
             have HOKB := Lib.hid (HOK.out.keep hfb (by simp))
             clear hblk hfb))
        rw [show (100 : Int) = ((100 : Nat) : Int) from rfl]
        refine (cut_any v.A v.m v.c 100 v.b wb HOKB.out.b (Nat.le_trans HOKB.out.m HOKB.out.c) HOKB.out.m (by omega)).mono ?_
        rintro e w4 ⟨A4, c4, rfl, hN4⟩
        have hb100 : (v.b.take 100).length ≤ 100 := List.length_take_le _ _
        generalize v.b.take 100 = b at *
        have H100 := Lib.hid hb100
        have hblk4 := HBLK.out.keep hN4.2.1 (by simp)
        have hc24 := hblk4.cell 2
        have hz24 := hblk4.frozen 2
        simp [Act8V.cells] at hc24
        have hblk5 : Blk (w4.setCell ⟨wr.heap.size, 2, none⟩ (.slice A4 b.length c4)) wr.heap.size 46 #[.int .i64 v.d, .int .i64 v.q, .slice A4 b.length c4] := hblk4.set 2 _
        have HBX := Lib.hid hblk5
        have hne5 : (Value.slice A4 b.length c4).ownBlock ≠ some wr.heap.size := own_ne hN4.1 hblk4 (by decide)
        have HA5 : Hid ((w4.setCell ⟨wr.heap.size, 2, none⟩ (.slice A4 b.length c4)).ownsRow 0 5 1 (.slice A4 b.length c4) b.length (b.map by8)) := Lib.hid (own_setCell hN4.1 ⟨wr.heap.size, 2, none⟩ hne5 _)
        have hfw5 : Fr [] wr (w4.setCell ⟨wr.heap.size, 2, none⟩ (.slice A4 b.length c4)) := (HFB.out.and hN4.2.1 (by simp)).setCell _ (fun h => by simp at h) _
        have HAN : Hid (∀ x ∈ bk A4, wr.heap.size < x) := Lib.hid (fun x hx => by
          have h1 := hN4.2.2 x hx
          have h2 := HFB.out.size
          have h3 := HBLK.out.lt
          omega)
        have HL5 := Lib.hid (HLT.out.keep hfw5)
        have HFW5 := Lib.hid hfw5
        have HTlt := Lib.hid HLT.out.log.lt
        have hc05 := hblk5.cell 0
        simp at hc05
        clear hN4 hb100 hc0 hc1 hc2 hblk5 hne5 hfw5 hblk4 HBLK HFB
        go_wp2_with fail
        refine (within_pos v.d 7 HOKB.out.d.1 HOKB.out.d.2 (by omega) (by omega) _).mono ?_
        rintro e wx ⟨rfl, rfl⟩
        have HVD := Lib.hid (And.intro HOKB.out.q.1 HOKB.out.q.2)
        clear hc05 hc24 hz24 HOKB HOK HCELLS
        generalize w4.setCell ⟨wr.heap.size, 2, none⟩ (.slice A4 b.length c4) = w5 at *
        have HGB : Hid (wr.heap.size < w5.heap.size) := Lib.hid HBX.out.lt
        generalize hgb : wr.heap.size = gb at *
        have HGBE := Lib.hid hgb
        clear hgb
        obtain hq | hq | hq : v.d % 7 = 4 ∨ (v.d % 7 = 5 ∨ v.d % 7 = 6) ∨ ¬ (v.d % 7 = 4 ∨ v.d % 7 = 5 ∨ v.d % 7 = 6) := by omega
        · have hq4 : (v.d % 7 == 4) = true := by simp; omega
          have hcb := HBX.out.cell 1
          simp at hcb
          clear hq
          go_wp2_with fail
          refine (within_pos v.q 5 HVD.out.1 HVD.out.2 (by omega) (by omega) _).mono ?_
          rintro e wx ⟨rfl, rfl⟩
          clear hcb
          obtain ⟨q, hq, hqz⟩ : ∃ q : Nat, v.q % 5 = (q : Int) ∧ q ≤ 4 := by
            have h1 : 0 ≤ v.q % 5 := Int.emod_nonneg _ (by omega)
            have h2 : v.q % 5 < 5 := Int.emod_lt_of_pos _ (by omega)
            exact ⟨(v.q % 5).toNat, by omega, by omega⟩
          rw [hq]
          clear hq
          obtain ⟨SD, hdk, hgT, _, hto⟩ := HL5.out.log.fuse
          have HDK := Lib.hid hdk
          have HTO := Lib.hid hto
          have HGT := Lib.hid hgT
          clear hdk hto hgT
          go_wp2_with fail
          refine (dfuse_any w5 SD gd d HDK.out q).mono ?_
          rintro e w6 ⟨rfl, hd6, hf6⟩
          have HR := Lib.hid (HL5.out.fuse q (by omega) (HTO.out _ _ hd6 hf6) hf6 HGT.out (by omega))
          clear hd6 hf6
          go_wp2_with fail
          go_meet
          exact ⟨T, g, _, A6, m6, c6, rs, A7, m7, c7, ns, rfl, rfl, rfl, HR⟩
        · have hq4 : (v.d % 7 == 4) = false := by simp; omega
          have hq56 : (v.d % 7 == 5) = true ∨ ((v.d % 7 == 5) = false ∧ (v.d % 7 == 6) = true) := by rcases hq with h | h <;> simp [h]
          have hcb := HBX.out.cell 1
          simp at hcb
          obtain ⟨SD, hdk, hgT, hsT, hto⟩ := HL5.out.log.fuse
          have HDK := Lib.hid hdk
          have HTO := Lib.hid hto
          have HGT := Lib.hid hgT
          have HST := Lib.hid hsT
          clear hdk hto hgT hsT hq
          go_upto_if 77 with (fail)
          go_cut [77] (fun s77 wx => s77 = .bool true ∧ w5 = wx)
          case first =>
            rcases hq56 with hq5 | ⟨hq5, hq6⟩
            all_goals
              go_wp2_with fail
              all_goals
                go_meet
                exact ⟨by first | rfl | exact congrArg Value.bool hq5 | exact congrArg Value.bool hq6, rfl⟩
          case rest =>
            obtain ⟨rfl, rfl⟩ := hcut
            go_wp2_with fail
            refine (dcrash_any w5 SD gd d HDK.out HL5.out.dok v.q HVD.out).mono ?_
            rintro e w6 ⟨rfl, hd6, hf6⟩
            obtain ⟨L', T', hcr, hsp, htl, hL'⟩ := HL5.out.j.crash HL5.out.log.short (fun b hb => by have := HL5.out.sh.2 b hb; omega) v.q
            rw [hcr] at hd6
            have HD6 := Lib.hid hd6
            have HF6 := Lib.hid hf6
            have HSP := Lib.hid hsp
            have HTL := Lib.hid htl
            have HLL : Hid (∀ b ∈ L', b.length ≤ 100) := Lib.hid (by
              rcases hL' with rfl | ⟨b0, q0, hq0, rfl⟩
              · exact HL5.out.sh.1
              · intro x hx
                rcases List.mem_append.1 hx with hx | hx
                · exact HL5.out.sh.1 x hx
                · simp at hx; subst hx; exact HL5.out.sh.2 x (by rw [hq0]; simp))
            have hlq : L'.length = m6 ∧ L' = rs.map (·.b) ∨ L'.length = m6 + 1 ∧ ∃ b0 q0, ns.map (·.b) = b0 :: q0 ∧ L' = rs.map (·.b) ++ [b0] := by
              have h0 := HL5.out.lens.2.1
              rcases hL' with rfl | ⟨b0, q0, hq0, rfl⟩
              · exact .inl ⟨h0, rfl⟩
              · exact .inr ⟨by rw [List.length_append, h0]; rfl, b0, q0, hq0, rfl⟩
            have HLQ := Lib.hid hlq
            have HLEN : Hid ((rowsB L').length ≤ 3000) := Lib.hid (by
              have h1 := rowsB_lenM 100 (by omega) L' HLL.out
              have h2 := HL5.out.cnt
              rcases hlq with ⟨h, _⟩ | ⟨h, _⟩ <;> omega)
            clear hcr hsp htl hd6 hf6 hL' hlq hcb
            go_wp2_with fail
            refine (wopen_any w6 SD gd _ HD6.out (cs_ok (by simp) (by rw [List.length_append]; have := HLEN.out; have := HTL.out; omega)) rfl L' T' HSP.out).mono ?_
            rintro e w7 h7
            rcases h7 with ⟨h7, _⟩ | ⟨_, g7, S7, rfl, hl7, hf7, hs7⟩
            · rw [(cl_settle2 L' T').1] at h7; cases h7
            rw [(cl_settle2 L' T').2] at hl7
            have HL7 := Lib.hid hl7
            have HLP := Lib.hid (HL5.out.put (T' := SD ++ S7) (w' := w7) ((HF6.out.trans hf7 (fun x hx _ => hx)).mono (fun x hx _ => by simp at hx; subst hx; exact HGT.out)) (fun x hx hl => by
              rcases List.mem_append.1 hx with hx | hx
              · exact HST.out x hx
              · have h1 := hs7 x hx
                have h2 := HF6.out.size
                omega))
            clear hl7 hf7 hs7 HD6 HF6
            generalize SD ++ S7 = T7 at *
            go_wp2_with fail
            generalize hnq : L'.length = q at *
            have HNQ := Lib.hid hnq
            refine (wrecords_gl w7 T7 g7 gd _ L' HL7.out (by have := HLEN.out; omega) T7 HL7.out.lt q hnq).mono ?_
            rintro e wa ⟨ar, rr, rfl, hgl, hrr, hfr⟩
            have HGL := Lib.hid hgl
            have HRR := Lib.hid hrr
            have HLa := Lib.hid (HL7.out.keep hfr (by simp))
            have HG6 := Lib.hid (HLP.out.gl.keep (T' := T7 ++ bk A7) hfr (by simp) (fun _ hx _ => hx))
            have HFa := Lib.hid (HLP.out.fr.and hfr (by simp))
            have HO7 := Lib.hid (own_keep HLP.out.own hfr (by simp))
            have HOKa := Lib.hid (HLP.out.ok.keep (S' := T7) hfr (by simp) (fun _ hx _ => hx))
            have HR : Hid (LT w wa T7 g7 gd (cl L') (some ar) q q rr none 0 0 [] (k + 1)) := Lib.hid ⟨by rw [hrr]; exact HL7.out.keep hfr (by simp), by rw [hrr]; exact Jl.cl L', HLP.out.t, by simpa [bk] using hgl, Nat.le_refl _, ⟨rfl, .inl ⟨rfl, rfl⟩⟩, by simp [bk], by intro r hr; simp at hr, ⟨by rw [hrr]; exact HLL.out, by simp⟩, by
              have h2 := HL5.out.cnt
              rcases HLQ.out with ⟨h, _⟩ | ⟨h, _⟩ <;> omega, HLP.out.fr.and hfr (by simp)⟩
            clear hgl hrr hfr hnq
            go_upto_region 30 with (fail)
            refine wp_region_held_drew (S := Fr [] wa) (by kernel_rfl) (Fr.drew (Fr.refl _ wa)) (fun hHeld => ?_)
            have hm60 : (0 : Int) ≤ m6 := by omega
            have hm6c : (m6 : Int) ≤ c6 := by have := HL5.out.cap; omega
            have hwr : wrap64 ((m6 : Int) + 1) = (m6 : Int) + 1 := by have := HL5.out.cnt; unfold wrap64; omega
            have hwr2 : IntKind.i64.wrap ((m6 : Int) + 1) = (m6 : Int) + 1 := by have := HL5.out.cnt; rw [IntKind.wrap_i64]; omega
            rcases HLQ.out with ⟨hq1, hL'⟩ | ⟨hq1, b0, q0, hn0, hL'⟩
            · have h1 : ¬ (q : Int) < m6 := by omega
              have h2 : ¬ (q : Int) > (m6 : Int) + 1 := by omega
              have h3 : ¬ (q : Int) > (m6 : Int) := by omega
              have h4 : (m6 : Int) ≤ q := by omega
              have HTK : Hid (Rl wa (some ar) m6 (rr.take m6) ∧ (rr.take m6).map (·.b) = rs.map (·.b)) := Lib.hid ⟨HGL.out.1.take (by omega), by
                rw [List.map_take, HRR.out, hL', List.take_of_length_le (by rw [HL5.out.lens.2.1]; exact Nat.le_refl _)]⟩
              clear hq1 hL'
              refine run_at (i := 0) (v := ?_) rfl (by kernel_rfl) (by rfl) (fun _ _ _ h => h) hHeld (fun w1 hw1 => ?_) ?_
              rotate_left 1
              · skip
                go_simp
                (try (first | with_reducible rfl | (apply And.intro <;> rfl)))
              simp only [Act.put, List.setIfInBounds_toArray, List.set_cons_zero, List.set_cons_succ]
              refine run_at (i := 1) (v := ?_) rfl (by kernel_rfl) (by rfl) (fun _ _ _ h => h) hHeld (fun w1 hw1 => ?_) ?_
              rotate_left 1
              · skip
                go_simp
                (try (first | with_reducible rfl | (apply And.intro <;> rfl)))
              simp only [Act.put, List.setIfInBounds_toArray, List.set_cons_zero, List.set_cons_succ]
              refine run_at (i := 2) (v := ?_) rfl (by kernel_rfl) (by rfl) (fun _ _ _ h => h) hHeld (fun w1 hw1 => ?_) ?_
              rotate_left 1
              · skip
                go_simp
                (try (first | with_reducible rfl | (apply And.intro <;> rfl)))
              simp only [Act.put, List.setIfInBounds_toArray, List.set_cons_zero, List.set_cons_succ]
              refine run_at (i := 3) (v := ?_) rfl (by kernel_rfl) (by rfl) (fun _ _ _ h => h) hHeld (fun w1 hw1 => ?_) ?_
              rotate_left 1
              · skip
                go_simp
                (try (first | with_reducible rfl | (apply And.intro <;> rfl)))
              simp only [Act.put, List.setIfInBounds_toArray, List.set_cons_zero, List.set_cons_succ]
              refine run_at (i := 4) (v := ?_) rfl (by kernel_rfl) (by rfl) (fun _ _ _ h => h) hHeld (fun w1 hw1 => ?_) ?_
              rotate_left 1
              · skip
                go_simp
                (try (first | with_reducible rfl | (apply And.intro <;> rfl)))
              simp only [Act.put, List.setIfInBounds_toArray, List.set_cons_zero, List.set_cons_succ]
              refine run_at (i := 5) (v := ?_) rfl (by kernel_rfl) (by rfl) (fun _ _ _ h => h) hHeld (fun w1 hw1 => ?_) ?_
              rotate_left 1
              · skip
                go_simp
                (try (first | with_reducible rfl | (apply And.intro <;> rfl)))
              simp only [Act.put, List.setIfInBounds_toArray, List.set_cons_zero, List.set_cons_succ]
              refine run_at (i := 6) (v := ?_) rfl (by kernel_rfl) (by rfl) (fun _ _ _ h => h) hHeld (fun w1 hw1 => ?_) ?_
              rotate_left 1
              · skip
                go_simp
                (try (first | with_reducible rfl | (apply And.intro <;> rfl)))
              simp only [Act.put, List.setIfInBounds_toArray, List.set_cons_zero, List.set_cons_succ]
              refine run_at (i := 7) (v := ?_) rfl (by kernel_rfl) (by rfl) (fun _ _ _ h => h) hHeld (fun w1 hw1 => ?_) ?_
              rotate_left 1
              · skip
                go_simp
                (try (first | with_reducible rfl | (apply And.intro <;> rfl)))
              simp only [Act.put, List.setIfInBounds_toArray, List.set_cons_zero, List.set_cons_succ]
              refine run_at (i := 8) (v := ?_) rfl (by kernel_rfl) (by rfl) (fun _ _ _ h => h) hHeld (fun w1 hw1 => ?_) ?_
              rotate_left 1
              · skip
                go_simp
                (try (first | with_reducible rfl | (apply And.intro <;> rfl)))
              simp only [Act.put, List.setIfInBounds_toArray, List.set_cons_zero, List.set_cons_succ]
              refine run_at (i := 9) (v := ?_) rfl (by kernel_rfl) (by rfl) (fun _ _ _ h => h) hHeld (fun w1 hw1 => ?_) ?_
              rotate_left 1
              · skip
                go_simp
                (try (first | with_reducible rfl | (apply And.intro <;> rfl)))
              simp only [Act.put, List.setIfInBounds_toArray, List.set_cons_zero, List.set_cons_succ]
              refine run_at (i := 10) (v := ?_) rfl (by kernel_rfl) (by rfl) (fun _ _ _ h => h) hHeld (fun w1 hw1 => ?_) ?_
              rotate_left 1
              · skip
                go_simp
                (try (first | with_reducible rfl | (apply And.intro <;> rfl)))
              simp only [Act.put, List.setIfInBounds_toArray, List.set_cons_zero, List.set_cons_succ]
              refine run_at (i := 11) (v := ?_) rfl (by kernel_rfl) (by rfl) (fun _ _ _ h => h) hHeld (fun w1 hw1 => ?_) ?_
              rotate_left 1
              · skip
                go_simp
                (try (first | with_reducible rfl | (apply And.intro <;> rfl)))
              simp only [Act.put, List.setIfInBounds_toArray, List.set_cons_zero, List.set_cons_succ]
              refine run_at (i := 12) (v := ?_) rfl (by kernel_rfl) (by rfl) (fun _ _ _ h => h) hHeld (fun w1 hw1 => ?_) ?_
              rotate_left 1
              · skip
                go_simp
                (try (first | with_reducible rfl | (apply And.intro <;> rfl)))
              simp only [Act.put, List.setIfInBounds_toArray, List.set_cons_zero, List.set_cons_succ]
              refine run_at (i := 13) (v := ?_) rfl (by kernel_rfl) (by rfl) (fun _ _ _ h => h) hHeld (fun w1 hw1 => ?_) ?_
              rotate_left 1
              · skip
                go_simp
                (try (first | with_reducible rfl | (apply And.intro <;> rfl)))
              simp only [Act.put, List.setIfInBounds_toArray, List.set_cons_zero, List.set_cons_succ]
              refine run_at (i := 14) (v := ?_) rfl (by kernel_rfl) (by rfl) (fun _ _ _ h => h) hHeld (fun w1 hw1 => ?_) ?_
              rotate_left 1
              · skip
                go_simp
                (try (first | with_reducible rfl | (apply And.intro <;> rfl)))
              simp only [Act.put, List.setIfInBounds_toArray, List.set_cons_zero, List.set_cons_succ]
              refine run_at (i := 15) (v := ?_) rfl (by kernel_rfl) (by rfl) (fun _ _ _ h => h) hHeld (fun w1 hw1 => ?_) ?_
              rotate_left 1
              · skip
                go_simp
                (try (first | with_reducible rfl | (apply And.intro <;> rfl)))
              simp only [Act.put, List.setIfInBounds_toArray, List.set_cons_zero, List.set_cons_succ]
              refine run_at (i := 16) (v := ?_) rfl (by kernel_rfl) (by rfl) (fun _ _ _ h => h) hHeld (fun w1 hw1 => ?_) ?_
              rotate_left 1
              · skip
                go_simp
                (try (first | with_reducible rfl | (apply And.intro <;> rfl)))
              simp only [Act.put, List.setIfInBounds_toArray, List.set_cons_zero, List.set_cons_succ]
              refine run_at (i := 17) (v := ?_) rfl (by kernel_rfl) (by rfl) (fun _ _ _ h => h) hHeld (fun w1 hw1 => ?_) ?_
              rotate_left 1
              · skip
                go_simp
                (try (first | with_reducible rfl | (apply And.intro <;> rfl)))
              simp only [Act.put, List.setIfInBounds_toArray, List.set_cons_zero, List.set_cons_succ]
              refine run_at (i := 18) (v := ?_) rfl (by kernel_rfl) (by rfl) (fun _ _ _ h => h) hHeld (fun w1 hw1 => ?_) ?_
              rotate_left 1
              · skip
                go_simp
                (try (first | with_reducible rfl | (apply And.intro <;> rfl)))
              simp only [Act.put, List.setIfInBounds_toArray, List.set_cons_zero, List.set_cons_succ]
              refine call_at (i := 19) (f := ?_) (args := ?_) rfl (by kernel_rfl) (by rfl) ?_ ?_
              rotate_left 2
              · go_simp
                (try (first | with_reducible rfl | (apply And.intro <;> rfl)))
              refine (krows_yes (some ar) A6 m6 m6 _ c6 (rr.take m6) rs _ (HTK.out.1.keep hHeld (by simp)) (HG6.out.1.keep hHeld (by simp)) HTK.out.2 (fun r hr => by
                have h5 : r.b ∈ L' := by rw [← HRR.out]; exact List.mem_map.2 ⟨r, List.mem_of_mem_take hr, rfl⟩
                have := HLL.out _ h5
                omega) (by have := HL5.out.cnt; omega)).mono ?_
              rintro e_ w9 ⟨rfl, hf9⟩
              refine ⟨_, rfl, hHeld.trans hf9 (by simp), fun hHeld => ?_⟩
              simp only [Act.put, List.setIfInBounds_toArray, List.set_cons_zero, List.set_cons_succ]
              clear hf9
              refine run_at (i := 20) (v := ?_) rfl (by kernel_rfl) (by rfl) (fun _ _ _ h => h) hHeld (fun w1 hw1 => ?_) ?_
              rotate_left 1
              · skip
                go_simp
                (try (first | with_reducible rfl | (apply And.intro <;> rfl)))
              simp only [Act.put, List.setIfInBounds_toArray, List.set_cons_zero, List.set_cons_succ]
              refine run_at (i := 21) (v := ?_) rfl (by kernel_rfl) (by rfl) (fun _ _ _ h => h) hHeld (fun w1 hw1 => ?_) ?_
              rotate_left 1
              · skip
                go_simp
                (try (first | with_reducible rfl | (apply And.intro <;> rfl)))
              simp only [Act.put, List.setIfInBounds_toArray, List.set_cons_zero, List.set_cons_succ]
              refine run_at (i := 22) (v := ?_) rfl (by kernel_rfl) (by rfl) (fun _ _ _ h => h) hHeld (fun w1 hw1 => ?_) ?_
              rotate_left 1
              · skip
                go_simp
                (try (first | with_reducible rfl | (apply And.intro <;> rfl)))
              simp only [Act.put, List.setIfInBounds_toArray, List.set_cons_zero, List.set_cons_succ]
              refine run_at (i := 23) (v := ?_) rfl (by kernel_rfl) (by rfl) (fun _ _ _ h => h) hHeld (fun w1 hw1 => ?_) ?_
              rotate_left 1
              · skip
                go_simp
                (try (first | with_reducible rfl | (apply And.intro <;> rfl)))
              simp only [Act.put, List.setIfInBounds_toArray, List.set_cons_zero, List.set_cons_succ]
              refine run_at (i := 24) (v := ?_) rfl (by kernel_rfl) (by rfl) (fun _ _ _ h => h) hHeld (fun w1 hw1 => ?_) ?_
              rotate_left 1
              · skip
                go_simp
                (try (first | with_reducible rfl | (apply And.intro <;> rfl)))
              simp only [Act.put, List.setIfInBounds_toArray, List.set_cons_zero, List.set_cons_succ]
              refine run_at (i := 25) (v := ?_) rfl (by kernel_rfl) (by rfl) (fun _ _ _ h => h) hHeld (fun w1 hw1 => ?_) ?_
              rotate_left 1
              · skip
                go_simp
                (try (first | with_reducible rfl | (apply And.intro <;> rfl)))
              simp only [Act.put, List.setIfInBounds_toArray, List.set_cons_zero, List.set_cons_succ]
              refine run_at (i := 26) (v := ?_) rfl (by kernel_rfl) (by rfl) (fun _ _ _ h => h) hHeld (fun w1 hw1 => ?_) ?_
              rotate_left 1
              · skip
                go_simp
                (try (first | with_reducible rfl | (apply And.intro <;> rfl)))
              simp only [Act.put, List.setIfInBounds_toArray, List.set_cons_zero, List.set_cons_succ]
              refine run_at (i := 27) (v := ?_) rfl (by kernel_rfl) (by rfl) (fun _ _ _ h => h) hHeld (fun w1 hw1 => ?_) ?_
              rotate_left 1
              · skip
                go_simp
                (try (first | with_reducible rfl | (apply And.intro <;> rfl)))
              simp only [Act.put, List.setIfInBounds_toArray, List.set_cons_zero, List.set_cons_succ]
              refine run_at (i := 28) (v := ?_) rfl (by kernel_rfl) (by rfl) (fun _ _ _ h => h) hHeld (fun w1 hw1 => ?_) ?_
              rotate_left 1
              · skip
                go_simp
                (try (first | with_reducible rfl | (apply And.intro <;> rfl)))
              simp only [Act.put, List.setIfInBounds_toArray, List.set_cons_zero, List.set_cons_succ]
              refine skip_at (i := 29) rfl (by kernel_rfl) (fun _ _ _ h => h) (by kernel_rfl) hHeld ?_
              simp only [Act.put, List.setIfInBounds_toArray, List.set_cons_zero, List.set_cons_succ]
              refine skip_at (i := 30) rfl (by kernel_rfl) (fun _ _ _ h => h) (by kernel_rfl) hHeld ?_
              simp only [Act.put, List.setIfInBounds_toArray, List.set_cons_zero, List.set_cons_succ]
              refine skip_at (i := 31) rfl (by kernel_rfl) (fun _ _ _ h => h) (by kernel_rfl) hHeld ?_
              simp only [Act.put, List.setIfInBounds_toArray, List.set_cons_zero, List.set_cons_succ]
              refine skip_at (i := 32) rfl (by kernel_rfl) (fun _ _ _ h => h) (by kernel_rfl) hHeld ?_
              simp only [Act.put, List.setIfInBounds_toArray, List.set_cons_zero, List.set_cons_succ]
              refine skip_at (i := 33) rfl (by kernel_rfl) (fun _ _ _ h => h) (by kernel_rfl) hHeld ?_
              simp only [Act.put, List.setIfInBounds_toArray, List.set_cons_zero, List.set_cons_succ]
              refine skip_at (i := 34) rfl (by kernel_rfl) (fun _ _ _ h => h) (by kernel_rfl) hHeld ?_
              simp only [Act.put, List.setIfInBounds_toArray, List.set_cons_zero, List.set_cons_succ]
              refine skip_at (i := 35) rfl (by kernel_rfl) (fun _ _ _ h => h) (by kernel_rfl) hHeld ?_
              simp only [Act.put, List.setIfInBounds_toArray, List.set_cons_zero, List.set_cons_succ]
              refine skip_at (i := 36) rfl (by kernel_rfl) (fun _ _ _ h => h) (by kernel_rfl) hHeld ?_
              simp only [Act.put, List.setIfInBounds_toArray, List.set_cons_zero, List.set_cons_succ]
              refine skip_at (i := 37) rfl (by kernel_rfl) (fun _ _ _ h => h) (by kernel_rfl) hHeld ?_
              simp only [Act.put, List.setIfInBounds_toArray, List.set_cons_zero, List.set_cons_succ]
              refine skip_at (i := 38) rfl (by kernel_rfl) (fun _ _ _ h => h) (by kernel_rfl) hHeld ?_
              simp only [Act.put, List.setIfInBounds_toArray, List.set_cons_zero, List.set_cons_succ]
              refine skip_at (i := 39) rfl (by kernel_rfl) (fun _ _ _ h => h) (by kernel_rfl) hHeld ?_
              simp only [Act.put, List.setIfInBounds_toArray, List.set_cons_zero, List.set_cons_succ]
              refine skip_at (i := 40) rfl (by kernel_rfl) (fun _ _ _ h => h) (by kernel_rfl) hHeld ?_
              simp only [Act.put, List.setIfInBounds_toArray, List.set_cons_zero, List.set_cons_succ]
              refine skip_at (i := 41) rfl (by kernel_rfl) (fun _ _ _ h => h) (by kernel_rfl) hHeld ?_
              simp only [Act.put, List.setIfInBounds_toArray, List.set_cons_zero, List.set_cons_succ]
              refine skip_at (i := 42) rfl (by kernel_rfl) (fun _ _ _ h => h) (by kernel_rfl) hHeld ?_
              simp only [Act.put, List.setIfInBounds_toArray, List.set_cons_zero, List.set_cons_succ]
              refine skip_at (i := 43) rfl (by kernel_rfl) (fun _ _ _ h => h) (by kernel_rfl) hHeld ?_
              simp only [Act.put, List.setIfInBounds_toArray, List.set_cons_zero, List.set_cons_succ]
              refine run_at (i := 44) (v := ?_) rfl (by kernel_rfl) (by rfl) (fun _ _ _ h => h) hHeld (fun w1 hw1 => ?_) ?_
              rotate_left 1
              · skip
                go_simp
                (try (first | with_reducible rfl | (apply And.intro <;> rfl)))
              simp only [Act.put, List.setIfInBounds_toArray, List.set_cons_zero, List.set_cons_succ]
              refine run_at (i := 45) (v := ?_) rfl (by kernel_rfl) (by rfl) (fun _ _ _ h => h) hHeld (fun w1 hw1 => ?_) ?_
              rotate_left 1
              · skip
                go_simp
                (try (first | with_reducible rfl | (apply And.intro <;> rfl)))
              simp only [Act.put, List.setIfInBounds_toArray, List.set_cons_zero, List.set_cons_succ]
              refine wpAnyH_done (by kernel_rfl) ?_ _
              have HRX := Lib.hid (HR.out.keep hHeld)
              clear hHeld hwr hwr2 h1 h2 h3 h4
              go_wp2_with fail
              go_meet
              exact ⟨T7, g7, cl L', some ar, q, q, rr, none, 0, 0, [], rfl, rfl, rfl, HRX⟩
            · have h1 : ¬ (q : Int) < m6 := by omega
              have h2 : ¬ (q : Int) > (m6 : Int) + 1 := by omega
              have h3 : (q : Int) > (m6 : Int) := by omega
              have h4 : (m6 : Int) ≤ q := by omega
              have HTK : Hid (Rl wa (some ar) m6 (rr.take m6) ∧ (rr.take m6).map (·.b) = rs.map (·.b)) := Lib.hid ⟨HGL.out.1.take (by omega), by
                rw [List.map_take, HRR.out, hL', List.take_left' HL5.out.lens.2.1]⟩
              obtain ⟨ad1, r1, e1, hg1, hy1, hc1⟩ := HGL.out.1.at (k := m6) (by omega)
              injection e1 with e1
              subst e1
              have hb1 : r1.b = b0 := by
                have h5 : (rr.map (·.b))[m6]? = some r1.b := by rw [List.getElem?_map, hg1]; rfl
                rw [HRR.out, hL', List.getElem?_append_right (by rw [HL5.out.lens.2.1]; exact Nat.le_refl _), HL5.out.lens.2.1, Nat.sub_self] at h5
                simpa using h5.symm
              obtain ⟨n0, ns', hns', hnb⟩ : ∃ n0 ns', ns = n0 :: ns' ∧ n0.b = b0 := by
                cases ns with
                | nil => simp at hn0
                | cons x y => simp at hn0; exact ⟨x, y, rfl, hn0.1⟩
              have hm70 : 0 < m7 := by rw [← HL5.out.lens.2.2, hns']; simp
              have h6 : ((m7 : Int) == 0) = false := by simp; omega
              have h7 : ¬ (m7 : Int) = 0 := by omega
              have hm71 : (0 : Int) < m7 := by omega
              have hoa := HOKa.out n0 (by rw [hns']; simp)
              have HY1 := Lib.hid hy1
              have HY2 := Lib.hid (By.of_own hoa.1)
              have HBB : Hid (r1.b = n0.b) := Lib.hid (by rw [hb1, hnb])
              have H100 : Hid (r1.n ≤ 1000) := Lib.hid (by
                have h5 : r1.b ∈ L' := by rw [← HRR.out]; exact List.mem_map.2 ⟨r1, List.mem_of_getElem? hg1, rfl⟩
                have := HLL.out _ h5
                rw [← hy1.1]
                omega)
              have hca : ∃ gq, A7 = some ⟨gq, 0, none⟩ ∧ wa.cell? ⟨gq, 0, none⟩ = some (.slice n0.A n0.n n0.c) := by
                obtain ⟨gq, cap, hv, _, _⟩ := HO7.out.form hm70
                injection hv with hA
                refine ⟨gq, hA, ?_⟩
                have := HO7.out.cells (g := gq) (by rw [hA]; rfl) 0 n0.val (by rw [hns']; rfl)
                simpa [Addr.add, RowV.val] using this
              obtain ⟨gq, hA7, hc2⟩ := hca
              rw [hA7]
              clear hq1 hL' hg1 hy1 hb1 hns' hnb hoa hA7
              refine run_at (i := 0) (v := ?_) rfl (by kernel_rfl) (by rfl) (fun _ _ _ h => h) hHeld (fun w1 hw1 => ?_) ?_
              rotate_left 1
              · skip
                go_simp
                (try (first | with_reducible rfl | (apply And.intro <;> rfl)))
              simp only [Act.put, List.setIfInBounds_toArray, List.set_cons_zero, List.set_cons_succ]
              refine run_at (i := 1) (v := ?_) rfl (by kernel_rfl) (by rfl) (fun _ _ _ h => h) hHeld (fun w1 hw1 => ?_) ?_
              rotate_left 1
              · skip
                go_simp
                (try (first | with_reducible rfl | (apply And.intro <;> rfl)))
              simp only [Act.put, List.setIfInBounds_toArray, List.set_cons_zero, List.set_cons_succ]
              refine run_at (i := 2) (v := ?_) rfl (by kernel_rfl) (by rfl) (fun _ _ _ h => h) hHeld (fun w1 hw1 => ?_) ?_
              rotate_left 1
              · skip
                go_simp
                (try (first | with_reducible rfl | (apply And.intro <;> rfl)))
              simp only [Act.put, List.setIfInBounds_toArray, List.set_cons_zero, List.set_cons_succ]
              refine run_at (i := 3) (v := ?_) rfl (by kernel_rfl) (by rfl) (fun _ _ _ h => h) hHeld (fun w1 hw1 => ?_) ?_
              rotate_left 1
              · skip
                go_simp
                (try (first | with_reducible rfl | (apply And.intro <;> rfl)))
              simp only [Act.put, List.setIfInBounds_toArray, List.set_cons_zero, List.set_cons_succ]
              refine run_at (i := 4) (v := ?_) rfl (by kernel_rfl) (by rfl) (fun _ _ _ h => h) hHeld (fun w1 hw1 => ?_) ?_
              rotate_left 1
              · skip
                go_simp
                (try (first | with_reducible rfl | (apply And.intro <;> rfl)))
              simp only [Act.put, List.setIfInBounds_toArray, List.set_cons_zero, List.set_cons_succ]
              refine run_at (i := 5) (v := ?_) rfl (by kernel_rfl) (by rfl) (fun _ _ _ h => h) hHeld (fun w1 hw1 => ?_) ?_
              rotate_left 1
              · skip
                go_simp
                (try (first | with_reducible rfl | (apply And.intro <;> rfl)))
              simp only [Act.put, List.setIfInBounds_toArray, List.set_cons_zero, List.set_cons_succ]
              refine run_at (i := 6) (v := ?_) rfl (by kernel_rfl) (by rfl) (fun _ _ _ h => h) hHeld (fun w1 hw1 => ?_) ?_
              rotate_left 1
              · skip
                go_simp
                (try (first | with_reducible rfl | (apply And.intro <;> rfl)))
              simp only [Act.put, List.setIfInBounds_toArray, List.set_cons_zero, List.set_cons_succ]
              refine run_at (i := 7) (v := ?_) rfl (by kernel_rfl) (by rfl) (fun _ _ _ h => h) hHeld (fun w1 hw1 => ?_) ?_
              rotate_left 1
              · skip
                go_simp
                (try (first | with_reducible rfl | (apply And.intro <;> rfl)))
              simp only [Act.put, List.setIfInBounds_toArray, List.set_cons_zero, List.set_cons_succ]
              refine run_at (i := 8) (v := ?_) rfl (by kernel_rfl) (by rfl) (fun _ _ _ h => h) hHeld (fun w1 hw1 => ?_) ?_
              rotate_left 1
              · skip
                go_simp
                (try (first | with_reducible rfl | (apply And.intro <;> rfl)))
              simp only [Act.put, List.setIfInBounds_toArray, List.set_cons_zero, List.set_cons_succ]
              refine run_at (i := 9) (v := ?_) rfl (by kernel_rfl) (by rfl) (fun _ _ _ h => h) hHeld (fun w1 hw1 => ?_) ?_
              rotate_left 1
              · skip
                go_simp
                (try (first | with_reducible rfl | (apply And.intro <;> rfl)))
              simp only [Act.put, List.setIfInBounds_toArray, List.set_cons_zero, List.set_cons_succ]
              refine run_at (i := 10) (v := ?_) rfl (by kernel_rfl) (by rfl) (fun _ _ _ h => h) hHeld (fun w1 hw1 => ?_) ?_
              rotate_left 1
              · skip
                go_simp
                (try (first | with_reducible rfl | (apply And.intro <;> rfl)))
              simp only [Act.put, List.setIfInBounds_toArray, List.set_cons_zero, List.set_cons_succ]
              refine run_at (i := 11) (v := ?_) rfl (by kernel_rfl) (by rfl) (fun _ _ _ h => h) hHeld (fun w1 hw1 => ?_) ?_
              rotate_left 1
              · skip
                go_simp
                (try (first | with_reducible rfl | (apply And.intro <;> rfl)))
              simp only [Act.put, List.setIfInBounds_toArray, List.set_cons_zero, List.set_cons_succ]
              refine run_at (i := 12) (v := ?_) rfl (by kernel_rfl) (by rfl) (fun _ _ _ h => h) hHeld (fun w1 hw1 => ?_) ?_
              rotate_left 1
              · skip
                go_simp
                (try (first | with_reducible rfl | (apply And.intro <;> rfl)))
              simp only [Act.put, List.setIfInBounds_toArray, List.set_cons_zero, List.set_cons_succ]
              refine run_at (i := 13) (v := ?_) rfl (by kernel_rfl) (by rfl) (fun _ _ _ h => h) hHeld (fun w1 hw1 => ?_) ?_
              rotate_left 1
              · skip
                go_simp
                (try (first | with_reducible rfl | (apply And.intro <;> rfl)))
              simp only [Act.put, List.setIfInBounds_toArray, List.set_cons_zero, List.set_cons_succ]
              refine run_at (i := 14) (v := ?_) rfl (by kernel_rfl) (by rfl) (fun _ _ _ h => h) hHeld (fun w1 hw1 => ?_) ?_
              rotate_left 1
              · skip
                go_simp
                (try (first | with_reducible rfl | (apply And.intro <;> rfl)))
              simp only [Act.put, List.setIfInBounds_toArray, List.set_cons_zero, List.set_cons_succ]
              refine run_at (i := 15) (v := ?_) rfl (by kernel_rfl) (by rfl) (fun _ _ _ h => h) hHeld (fun w1 hw1 => ?_) ?_
              rotate_left 1
              · skip
                go_simp
                (try (first | with_reducible rfl | (apply And.intro <;> rfl)))
              simp only [Act.put, List.setIfInBounds_toArray, List.set_cons_zero, List.set_cons_succ]
              refine run_at (i := 16) (v := ?_) rfl (by kernel_rfl) (by rfl) (fun _ _ _ h => h) hHeld (fun w1 hw1 => ?_) ?_
              rotate_left 1
              · skip
                go_simp
                (try (first | with_reducible rfl | (apply And.intro <;> rfl)))
              simp only [Act.put, List.setIfInBounds_toArray, List.set_cons_zero, List.set_cons_succ]
              refine run_at (i := 17) (v := ?_) rfl (by kernel_rfl) (by rfl) (fun _ _ _ h => h) hHeld (fun w1 hw1 => ?_) ?_
              rotate_left 1
              · skip
                go_simp
                (try (first | with_reducible rfl | (apply And.intro <;> rfl)))
              simp only [Act.put, List.setIfInBounds_toArray, List.set_cons_zero, List.set_cons_succ]
              refine run_at (i := 18) (v := ?_) rfl (by kernel_rfl) (by rfl) (fun _ _ _ h => h) hHeld (fun w1 hw1 => ?_) ?_
              rotate_left 1
              · skip
                go_simp
                (try (first | with_reducible rfl | (apply And.intro <;> rfl)))
              simp only [Act.put, List.setIfInBounds_toArray, List.set_cons_zero, List.set_cons_succ]
              refine call_at (i := 19) (f := ?_) (args := ?_) rfl (by kernel_rfl) (by rfl) ?_ ?_
              rotate_left 2
              · go_simp
                (try (first | with_reducible rfl | (apply And.intro <;> rfl)))
              refine (krows_yes (some ar) A6 m6 m6 _ c6 (rr.take m6) rs _ (HTK.out.1.keep hHeld (by simp)) (HG6.out.1.keep hHeld (by simp)) HTK.out.2 (fun r hr => by
                have h5 : r.b ∈ L' := by rw [← HRR.out]; exact List.mem_map.2 ⟨r, List.mem_of_mem_take hr, rfl⟩
                have := HLL.out _ h5
                omega) (by have := HL5.out.cnt; omega)).mono ?_
              rintro e_ w9 ⟨rfl, hf9⟩
              refine ⟨_, rfl, hHeld.trans hf9 (by simp), fun hHeld => ?_⟩
              simp only [Act.put, List.setIfInBounds_toArray, List.set_cons_zero, List.set_cons_succ]
              clear hf9
              refine run_at (i := 20) (v := ?_) rfl (by kernel_rfl) (by rfl) (fun _ _ _ h => h) hHeld (fun w1 hw1 => ?_) ?_
              rotate_left 1
              · skip
                go_simp
                (try (first | with_reducible rfl | (apply And.intro <;> rfl)))
              simp only [Act.put, List.setIfInBounds_toArray, List.set_cons_zero, List.set_cons_succ]
              refine run_at (i := 21) (v := ?_) rfl (by kernel_rfl) (by rfl) (fun _ _ _ h => h) hHeld (fun w1 hw1 => ?_) ?_
              rotate_left 1
              · skip
                go_simp
                (try (first | with_reducible rfl | (apply And.intro <;> rfl)))
              simp only [Act.put, List.setIfInBounds_toArray, List.set_cons_zero, List.set_cons_succ]
              refine run_at (i := 22) (v := ?_) rfl (by kernel_rfl) (by rfl) (fun _ _ _ h => h) hHeld (fun w1 hw1 => ?_) ?_
              rotate_left 1
              · skip
                go_simp
                (try (first | with_reducible rfl | (apply And.intro <;> rfl)))
              simp only [Act.put, List.setIfInBounds_toArray, List.set_cons_zero, List.set_cons_succ]
              refine run_at (i := 23) (v := ?_) rfl (by kernel_rfl) (by rfl) (fun _ _ _ h => h) hHeld (fun w1 hw1 => ?_) ?_
              rotate_left 1
              · skip
                go_simp
                (try (first | with_reducible rfl | (apply And.intro <;> rfl)))
              simp only [Act.put, List.setIfInBounds_toArray, List.set_cons_zero, List.set_cons_succ]
              refine run_at (i := 24) (v := ?_) rfl (by kernel_rfl) (by rfl) (fun _ _ _ h => h) hHeld (fun w1 hw1 => ?_) ?_
              rotate_left 1
              · skip
                go_simp
                (try (first | with_reducible rfl | (apply And.intro <;> rfl)))
              simp only [Act.put, List.setIfInBounds_toArray, List.set_cons_zero, List.set_cons_succ]
              refine run_at (i := 25) (v := ?_) rfl (by kernel_rfl) (by rfl) (fun _ _ _ h => h) hHeld (fun w1 hw1 => ?_) ?_
              rotate_left 1
              · skip
                go_simp
                (try (first | with_reducible rfl | (apply And.intro <;> rfl)))
              simp only [Act.put, List.setIfInBounds_toArray, List.set_cons_zero, List.set_cons_succ]
              refine run_at (i := 26) (v := ?_) rfl (by kernel_rfl) (by rfl) (fun _ _ _ h => h) hHeld (fun w1 hw1 => ?_) ?_
              rotate_left 1
              · skip
                go_simp
                (try (first | with_reducible rfl | (apply And.intro <;> rfl)))
              simp only [Act.put, List.setIfInBounds_toArray, List.set_cons_zero, List.set_cons_succ]
              refine run_at (i := 27) (v := ?_) rfl (by kernel_rfl) (by rfl) (fun _ _ _ h => h) hHeld (fun w1 hw1 => ?_) ?_
              rotate_left 1
              · skip
                go_simp
                (try (first | with_reducible rfl | (apply And.intro <;> rfl)))
              simp only [Act.put, List.setIfInBounds_toArray, List.set_cons_zero, List.set_cons_succ]
              refine run_at (i := 28) (v := ?_) rfl (by kernel_rfl) (by rfl) (fun _ _ _ h => h) hHeld (fun w1 hw1 => ?_) ?_
              rotate_left 1
              · skip
                go_simp
                (try (first | with_reducible rfl | (apply And.intro <;> rfl)))
              simp only [Act.put, List.setIfInBounds_toArray, List.set_cons_zero, List.set_cons_succ]
              refine run_at (i := 29) (v := ?_) rfl (by kernel_rfl) (by rfl) (fun _ _ _ h => h) hHeld (fun w1 hw1 => ?_) ?_
              rotate_left 1
              · skip
                go_simp
                (try (first | with_reducible rfl | (apply And.intro <;> rfl)))
              simp only [Act.put, List.setIfInBounds_toArray, List.set_cons_zero, List.set_cons_succ]
              refine run_at (i := 30) (v := ?_) rfl (by kernel_rfl) (by rfl) (fun _ _ _ h => h) hHeld (fun w1 hw1 => ?_) ?_
              rotate_left 1
              · skip
                go_simp
                (try (first | with_reducible rfl | (apply And.intro <;> rfl)))
              simp only [Act.put, List.setIfInBounds_toArray, List.set_cons_zero, List.set_cons_succ]
              refine run_at (i := 31) (v := ?_) rfl (by kernel_rfl) (by rfl) (fun _ _ _ h => h) hHeld (fun w1 hw1 => ?_) ?_
              rotate_left 1
              · skip
                go_simp
                (try (first | with_reducible rfl | (apply And.intro <;> rfl)))
              simp only [Act.put, List.setIfInBounds_toArray, List.set_cons_zero, List.set_cons_succ]
              refine run_at (i := 32) (v := ?_) rfl (by kernel_rfl) (by rfl) (fun _ _ _ h => h) hHeld (fun w1 hw1 => ?_) ?_
              rotate_left 1
              · skip
                go_simp
                (try (first | with_reducible rfl | (apply And.intro <;> rfl)))
              simp only [Act.put, List.setIfInBounds_toArray, List.set_cons_zero, List.set_cons_succ]
              refine run_at (i := 33) (v := ?_) rfl (by kernel_rfl) (by rfl) (fun _ _ _ h => h) hHeld (fun w1 hw1 => ?_) ?_
              rotate_left 1
              · skip
                go_simp
                (try (first | with_reducible rfl | (apply And.intro <;> rfl)))
              simp only [Act.put, List.setIfInBounds_toArray, List.set_cons_zero, List.set_cons_succ]
              refine run_at (i := 34) (v := ?_) rfl (by kernel_rfl) (by rfl) (fun _ _ _ h => h) hHeld (fun w1 hw1 => ?_) ?_
              rotate_left 1
              · skip
                go_simp
                (try (first | with_reducible rfl | (apply And.intro <;> rfl)))
              simp only [Act.put, List.setIfInBounds_toArray, List.set_cons_zero, List.set_cons_succ]
              refine run_at (i := 35) (v := ?_) rfl (by kernel_rfl) (by rfl) (fun _ _ _ h => h) hHeld (fun w1 hw1 => ?_) ?_
              rotate_left 1
              · skip
                go_simp
                (try (first | with_reducible rfl | (apply And.intro <;> rfl)))
              simp only [Act.put, List.setIfInBounds_toArray, List.set_cons_zero, List.set_cons_succ]
              refine run_at (i := 36) (v := ?_) rfl (by kernel_rfl) (by rfl) (fun _ _ _ h => h) hHeld (fun w1 hw1 => ?_) ?_
              rotate_left 1
              · skip
                go_simp
                (try (first | with_reducible rfl | (apply And.intro <;> rfl)))
              simp only [Act.put, List.setIfInBounds_toArray, List.set_cons_zero, List.set_cons_succ]
              refine run_at (i := 37) (v := ?_) rfl (by kernel_rfl) (by rfl) (fun _ _ _ h => h) hHeld (fun w1 hw1 => ?_) ?_
              rotate_left 1
              · skip
                have hcw0 := hw1.cell (hc1) (by first | (simp; done) | exact HNS.out | exact HNW.out | (intro hm; have hlt := HSB.out _ hm; (try dsimp only at hlt); omega))
                go_simp
                (try (first | with_reducible rfl | (apply And.intro <;> rfl)))
              simp only [Act.put, List.setIfInBounds_toArray, List.set_cons_zero, List.set_cons_succ]
              refine run_at (i := 38) (v := ?_) rfl (by kernel_rfl) (by rfl) (fun _ _ _ h => h) hHeld (fun w1 hw1 => ?_) ?_
              rotate_left 1
              · skip
                go_simp
                (try (first | with_reducible rfl | (apply And.intro <;> rfl)))
              simp only [Act.put, List.setIfInBounds_toArray, List.set_cons_zero, List.set_cons_succ]
              refine run_at (i := 39) (v := ?_) rfl (by kernel_rfl) (by rfl) (fun _ _ _ h => h) hHeld (fun w1 hw1 => ?_) ?_
              rotate_left 1
              · skip
                go_simp
                (try (first | with_reducible rfl | (apply And.intro <;> rfl)))
              simp only [Act.put, List.setIfInBounds_toArray, List.set_cons_zero, List.set_cons_succ]
              refine run_at (i := 40) (v := ?_) rfl (by kernel_rfl) (by rfl) (fun _ _ _ h => h) hHeld (fun w1 hw1 => ?_) ?_
              rotate_left 1
              · skip
                have hcw0 := hw1.cell (hc2) (by first | (simp; done) | exact HNS.out | exact HNW.out | (intro hm; have hlt := HSB.out _ hm; (try dsimp only at hlt); omega))
                go_simp
                (try (first | with_reducible rfl | (apply And.intro <;> rfl)))
              simp only [Act.put, List.setIfInBounds_toArray, List.set_cons_zero, List.set_cons_succ]
              refine call_at (i := 41) (f := ?_) (args := ?_) rfl (by kernel_rfl) (by rfl) ?_ ?_
              rotate_left 2
              · go_simp
                (try (first | with_reducible rfl | (apply And.intro <;> rfl)))
              refine (same_any r1.A n0.A r1.n n0.n r1.c n0.c r1.b n0.b _ (HY1.out.keep hHeld (by simp)) (HY2.out.keep hHeld (by simp)) (by have := H100.out; omega)).mono ?_
              rw [decide_eq_true HBB.out]
              rintro e_ wy ⟨rfl, ky, hky⟩
              refine ⟨_, rfl, by rw [hky]; exact hHeld.drewN ky, fun hHeld => ?_⟩
              simp only [Act.put, List.setIfInBounds_toArray, List.set_cons_zero, List.set_cons_succ]
              clear hky
              refine run_at (i := 42) (v := ?_) rfl (by kernel_rfl) (by rfl) (fun _ _ _ h => h) hHeld (fun w1 hw1 => ?_) ?_
              rotate_left 1
              · skip
                go_simp
                (try (first | with_reducible rfl | (apply And.intro <;> rfl)))
              simp only [Act.put, List.setIfInBounds_toArray, List.set_cons_zero, List.set_cons_succ]
              refine run_at (i := 43) (v := ?_) rfl (by kernel_rfl) (by rfl) (fun _ _ _ h => h) hHeld (fun w1 hw1 => ?_) ?_
              rotate_left 1
              · skip
                go_simp
                (try (first | with_reducible rfl | (apply And.intro <;> rfl)))
              simp only [Act.put, List.setIfInBounds_toArray, List.set_cons_zero, List.set_cons_succ]
              refine run_at (i := 44) (v := ?_) rfl (by kernel_rfl) (by rfl) (fun _ _ _ h => h) hHeld (fun w1 hw1 => ?_) ?_
              rotate_left 1
              · skip
                go_simp
                (try (first | with_reducible rfl | (apply And.intro <;> rfl)))
              simp only [Act.put, List.setIfInBounds_toArray, List.set_cons_zero, List.set_cons_succ]
              refine run_at (i := 45) (v := ?_) rfl (by kernel_rfl) (by rfl) (fun _ _ _ h => h) hHeld (fun w1 hw1 => ?_) ?_
              rotate_left 1
              · skip
                go_simp
                (try (first | with_reducible rfl | (apply And.intro <;> rfl)))
              simp only [Act.put, List.setIfInBounds_toArray, List.set_cons_zero, List.set_cons_succ]
              refine wpAnyH_done (by kernel_rfl) ?_ _
              have HRX := Lib.hid (HR.out.keep hHeld)
              clear hHeld hwr hwr2 h1 h2 h3 h4 h6 h7 hm71 hc1 hc2
              go_wp2_with fail
              go_meet
              exact ⟨T7, g7, cl L', some ar, q, q, rr, none, 0, 0, [], rfl, rfl, rfl, HRX⟩
        · have hq4 : (v.d % 7 == 4) = false := by simp; omega
          have hq5 : (v.d % 7 == 5) = false := by simp; omega
          have hq6 : (v.d % 7 == 6) = false := by simp; omega
          clear hq
          have hcb := HBX.out.cell 2
          simp at hcb
          go_wp2_with fail
          refine (wput_any w5 T g gd d (rs.map (·.b)) HL5.out.log HL5.out.dok A4 _ c4 b (By.of_own HA5.out) (fun x hx => ⟨fun hm => by have h1 := HAN.out x hx; have h2 := HTlt.out x hm; have := HGBE.out; omega, own_lt HA5.out x (by rw [bk_mem]; exact hx)⟩) (by have := H100.out; omega) (by have := HL5.out.rows; omega) (by have := HL5.out.rows; omega)).mono ?_
          rintro e w6 ⟨rfl, T', hl6, hf6, ht6⟩
          have HLP := Lib.hid (HL5.out.put hf6 ht6)
          have hgT : ¬ gb ∈ T := fun hm => by have h2 := HTlt.out _ hm; have := HGBE.out; omega
          have hbx6 := HBX.out.keep hf6 hgT
          have HA6 := Lib.hid (own_keep HA5.out hf6 (fun x hx hm => by rw [bk_mem] at hx; have h1 := HAN.out x hx; have h2 := HTlt.out x hm; have := HGBE.out; omega))
          have HA6T : Hid (∀ x ∈ bk A4, ¬ x ∈ T' ++ bk A7) := Lib.hid (fun x hx hm => by
            have h1 := HAN.out x hx
            have h0 := own_lt HA5.out x (by rw [bk_mem]; exact hx)
            have := HGBE.out
            rcases List.mem_append.1 hm with hm | hm
            · have h2 := HTlt.out x (ht6 x hm h0); omega
            · exact rows_apart HLP.out.own HA6.out x hm hx)
          have HL6 := Lib.hid hl6
          have hcb6 := hbx6.cell 2
          simp at hcb6
          have HCB := Lib.hid hcb6
          clear hl6 hf6 ht6 hcb hbx6 hcb6
          cases hlb : d.logB b
          · have HJ := Lib.hid (HL5.out.j.no b hlb)
            have hL : d.logL b (rs.map (·.b)) = rs.map (·.b) := by unfold Dsk.logL; rw [hlb]; rfl
            rw [hL] at HL6
            rw [show errB false = 9 from rfl]
            have hcb6 := HCB.out
            clear hL hlb
            go_wp2_with (at_builtin; refine Stop.mk ?_)
            refine Stop.go ?_
            refine wpList_append_vals _ rfl (.tmp 65) (.tmp 68) _ rfl 22 (.slice none 0 0) 24 Try.underlying33 info_row rfl (.slice A7 m7 c7) m7 _ rfl (HLP.out.own.alloc _) ⟨w6.heap.size, 0, none⟩ 1 (.slice A4 b.length c4) rfl ?_ rfl (by have := HL5.out.cnt; omega) (by omega) ?_
            · exact (Blk.new w6 22 #[Value.slice A4 b.length c4]).cell 0
            intro A9 c9 w9 ho9 hg9 hat9
            have hf69 : Fr (bk A7) w6 w9 := (((Fr.refl [] w6).alloc _).mono (by simp)).grown hg9 (fun x hx _ => by rw [bk_mem] at hx; exact hx)
            have hap := log_apart HL6.out HLP.out.own
            have hb9 : ∀ x ∈ bk A9, x < w6.heap.size → x ∈ bk A7 := fun x hx hl => by
              rcases hat9 with e | e
              · rw [e, bk_own] at hx; exact hx
              · rw [e] at hx; simp at hx; omega
            have HR : Hid (LT w w9 T' g gd (d.logD b) A6 m6 c6 rs A9 (m7 + 1) c9 (ns ++ [⟨A4, b.length, c4, b⟩]) (k + 1)) := Lib.hid ⟨HL6.out.keep hf69 (fun x hx hm => hap x hm hx), by simpa using HJ.out, HLP.out.t,
              HLP.out.gl.keep hf69 (fun x hx => by simp [hx]) (fun x hx hl => by
                rcases List.mem_append.1 hx with hx | hx
                · simp [hx]
                · simp [hb9 x hx hl]), HL5.out.cap, by simpa [RowV.val] using ho9, fun x hx => by
                by_cases hl : x < w6.heap.size
                · exact HL5.out.bk7 x (hb9 x hx hl)
                · have := HLP.out.fr.size; omega,
              fun r hr => by
                rcases List.mem_append.1 hr with hr | hr
                · have h1 := HLP.out.ok r hr
                  exact ⟨own_keep h1.1 hf69 (fun x hx hm => rows_apart HLP.out.own h1.1 x hm (by rw [bk_mem] at hx; exact hx)), h1.2⟩
                · simp at hr
                  subst hr
                  exact ⟨own_keep HA6.out hf69 (fun x hx hm => rows_apart HLP.out.own HA6.out x hm (by rw [bk_mem] at hx; exact hx)), fun x hx hm => HA6T.out x hx (by simp [hm])⟩,
              ⟨HL5.out.sh.1, fun x hx => by
                rw [List.map_append] at hx
                rcases List.mem_append.1 hx with hx | hx
                · exact HL5.out.sh.2 x hx
                · simp at hx; subst hx; exact H100.out⟩, by have := HL5.out.cnt; omega, HLP.out.fr.trans hf69 (fun x hx hl => by have := HL5.out.bk7 x hx; omega)⟩
            clear ho9 hg9 hat9 hf69 hap hb9 hcb6
            go_wp2_with fail
            go_meet
            exact ⟨T', g, _, A6, m6, c6, rs, A9, m7 + 1, c9, _, rfl, rfl, rfl, HR⟩
          · obtain ⟨hj, hns⟩ := HL5.out.j.yes b hlb
            have HJ := Lib.hid hj
            have HNS := Lib.hid hns
            have hL : d.logL b (rs.map (·.b)) = rs.map (·.b) ++ [b] := by unfold Dsk.logL; rw [hlb]; rfl
            rw [hL] at HL6
            rw [show errB true = 0 from rfl]
            clear hL hlb hj hns
            go_upto_region 17 with (fail)
            refine wp_region_held_drew (S := Fr [] w6) (by kernel_rfl) (Fr.drew (Fr.refl _ w6)) (fun hHeld => ?_)
            have hm6 : (m6 : Int) ≤ c6 := by have := HL5.out.cap; omega
            have hm60 : (0 : Int) ≤ m6 := by omega
            refine run_at (i := 0) (v := ?_) rfl (by kernel_rfl) (by rfl) (fun _ _ _ h => h) hHeld (fun w1 hw1 => ?_) ?_
            rotate_left 1
            · skip
              go_simp
              (try (first | with_reducible rfl | (apply And.intro <;> rfl)))
            simp only [Act.put, List.setIfInBounds_toArray, List.set_cons_zero, List.set_cons_succ]
            refine run_at (i := 1) (v := ?_) rfl (by kernel_rfl) (by rfl) (fun _ _ _ h => h) hHeld (fun w1 hw1 => ?_) ?_
            rotate_left 1
            · skip
              go_simp
              (try (first | with_reducible rfl | (apply And.intro <;> rfl)))
            simp only [Act.put, List.setIfInBounds_toArray, List.set_cons_zero, List.set_cons_succ]
            refine run_at (i := 2) (v := ?_) rfl (by kernel_rfl) (by rfl) (fun _ _ _ h => h) hHeld (fun w1 hw1 => ?_) ?_
            rotate_left 1
            · skip
              go_simp
              (try (first | with_reducible rfl | (apply And.intro <;> rfl)))
            simp only [Act.put, List.setIfInBounds_toArray, List.set_cons_zero, List.set_cons_succ]
            refine run_at (i := 3) (v := ?_) rfl (by kernel_rfl) (by rfl) (fun _ _ _ h => h) hHeld (fun w1 hw1 => ?_) ?_
            rotate_left 1
            · skip
              go_simp
              (try (first | with_reducible rfl | (apply And.intro <;> rfl)))
            simp only [Act.put, List.setIfInBounds_toArray, List.set_cons_zero, List.set_cons_succ]
            refine run_at (i := 4) (v := ?_) rfl (by kernel_rfl) (by rfl) (fun _ _ _ h => h) hHeld (fun w1 hw1 => ?_) ?_
            rotate_left 1
            · skip
              go_simp
              (try (first | with_reducible rfl | (apply And.intro <;> rfl)))
            simp only [Act.put, List.setIfInBounds_toArray, List.set_cons_zero, List.set_cons_succ]
            refine run_at (i := 5) (v := ?_) rfl (by kernel_rfl) (by rfl) (fun _ _ _ h => h) hHeld (fun w1 hw1 => ?_) ?_
            rotate_left 1
            · skip
              go_simp
              (try (first | with_reducible rfl | (apply And.intro <;> rfl)))
            simp only [Act.put, List.setIfInBounds_toArray, List.set_cons_zero, List.set_cons_succ]
            refine run_at (i := 6) (v := ?_) rfl (by kernel_rfl) (by rfl) (fun _ _ _ h => h) hHeld (fun w1 hw1 => ?_) ?_
            rotate_left 1
            · skip
              go_simp
              (try (first | with_reducible rfl | (apply And.intro <;> rfl)))
            simp only [Act.put, List.setIfInBounds_toArray, List.set_cons_zero, List.set_cons_succ]
            refine run_at (i := 7) (v := ?_) rfl (by kernel_rfl) (by rfl) (fun _ _ _ h => h) hHeld (fun w1 hw1 => ?_) ?_
            rotate_left 1
            · skip
              have hcw0 := hw1.cell (HCB.out) (by first | (simp; done) | exact HNS.out | exact HNW.out | (intro hm; have hlt := HSB.out _ hm; (try dsimp only at hlt); omega))
              go_simp
              (try (first | with_reducible rfl | (apply And.intro <;> rfl)))
            simp only [Act.put, List.setIfInBounds_toArray, List.set_cons_zero, List.set_cons_succ]
            have HFD : Hid (Fr [] w6 w6.drew) := Lib.hid (Fr.drew (Fr.refl [] w6))
            have HSE : Hid (w6.drew.heap.size = w6.heap.size) := Lib.hid rfl
            generalize w6.drew = wd at *
            refine step_at (i := 8) rfl (by kernel_rfl) (by rfl) (fun K hK => ?_)
            refine wp_run (v := ?_) (w' := ?_) ?_ ?_
            rotate_left 2
            · go_simp
              (try (first | with_reducible rfl | (apply And.intro <;> rfl)))
            refine hK.out _ _ (hHeld.alloc _) (fun hHeld => ?_)
            clear hK K
            simp only [Act.put, List.setIfInBounds_toArray, List.set_cons_zero, List.set_cons_succ]
            refine step_at (i := 9) rfl (by kernel_rfl) (by rfl) (fun K hK => ?_)
            refine wp_append_full _ (.tmp 58) (.tmp 61) _ rfl 22 (.slice none 0 0) 24 Try.underlying33 info_row rfl A6 m6 (rs.map RowV.val) rfl (by rw [List.length_map]; exact HL5.out.lens.1) (fun hn => ((HLP.out.gl.1.keep HFD.out (by simp)).keep ((Fr.refl [] wd).alloc _) (by simp)).cells hn) ⟨wd.heap.size, 0, none⟩ 1 1 [.slice A4 b.length c4] rfl rfl (fun j u hu => ?_) (by omega) (by have := HL5.out.cnt; omega) (by omega) ?_
            · rcases j with _ | j
              · simp at hu
                subst hu
                exact (Blk.new wd 22 #[Value.slice A4 b.length c4]).cell 0
              · simp at hu
            intro c9 w9 ho9 hf9
            have HO9 := Lib.hid ho9
            have HF9 : Hid (Fr [] w6 w9) := Lib.hid ((HFD.out.alloc _).and hf9 (by simp))
            have HX9 : Hid (w6.heap.size ≤ (wd.alloc (Obj.cells #[Value.slice A4 b.length c4] 22)).heap.size) := Lib.hid (by have := HFD.out.size; simp; omega)
            refine hK.out _ _ (hHeld.trans hf9 (by simp)) (fun hHeld => ?_)
            clear hK K ho9 hf9
            simp only [Act.put, List.setIfInBounds_toArray, List.set_cons_zero, List.set_cons_succ]
            refine run_at (i := 10) (v := ?_) rfl (by kernel_rfl) (by rfl) (fun _ _ _ h => h) hHeld (fun w1 hw1 => ?_) ?_
            rotate_left 1
            · skip
              go_simp
              (try (first | with_reducible rfl | (apply And.intro <;> rfl)))
            simp only [Act.put, List.setIfInBounds_toArray, List.set_cons_zero, List.set_cons_succ]
            refine wpAnyH_done (by kernel_rfl) ?_ _
            have HR : Hid (LT w w9 T' g gd (d.logD b) (some ⟨(wd.alloc (Obj.cells #[Value.slice A4 b.length c4] 22)).heap.size, 0, none⟩) (m6 + 1) c9 (rs ++ [⟨A4, b.length, c4, b⟩]) A7 m7 c7 ns (k + 1)) := Lib.hid ⟨by
                have := HL6.out.keep HF9.out (by simp)
                simpa using this, by simpa using HJ.out, HLP.out.t,
              HLP.out.gl.snoc HF9.out (fun x hx => by
                rcases List.mem_append.1 hx with hx | hx
                · exact HL6.out.lt x hx
                · exact own_lt HLP.out.own x (by rw [bk_mem]; exact hx)) HX9.out HO9.out (By.of_own HA6.out) (fun x hx => ⟨HA6T.out x hx, own_lt HA6.out x (by rw [bk_mem]; exact hx)⟩),
              own_cap HO9.out, own_keep HLP.out.own HF9.out (by simp), HL5.out.bk7, HLP.out.ok.keep (S' := T') HF9.out (by simp) (fun _ hx _ => hx),
              ⟨fun x hx => by
                rw [List.map_append] at hx
                rcases List.mem_append.1 hx with hx | hx
                · exact HL5.out.sh.1 x hx
                · simp at hx; subst hx; exact H100.out, HL5.out.sh.2⟩, by have := HL5.out.cnt; omega, HLP.out.fr.and HF9.out (by simp)⟩
            rw [show (wd.alloc (Obj.cells #[Value.slice A4 b.length c4] 22)).heap.size = wd.heap.size + 1 by simp] at HR
            clear hHeld
            go_wp2_with fail
            go_meet
            exact ⟨T', g, _, _, m6 + 1, c9, _, A7, m7, c7, ns, rfl, rfl, rfl, HR⟩
      case rest =>
        obtain ⟨T', g', d', A6', m6', c6', rs', A7', m7', c7', ns', rfl, rfl, rfl, HR⟩ := hcut
        go_wp2
        go_roundw
        case rel => exact ⟨k + 1, T', g', d', A6', m6', c6', rs', A7', m7', c7', ns', by omega, by omega, by go_num, rfl, rfl, rfl, HR⟩
        case measure => simp [intOf]; omega
    · have hkx : (n : Int) ≤ k ∨ ((k : Int) < n ∧ (25 : Int) ≤ k) := by omega
      rcases hkx with hkx | ⟨hkx0, hkx⟩
      all_goals
        go_wp2_with fail
        refine (wwakes_any wr).mono ?_
        rintro e w9 ⟨rfl, hf9⟩
        have HF9 := Lib.hid hf9
        clear hf9
        go_wp2
        go_ret
        exact ⟨rfl, HLT.out.fr.and HF9.out (by simp)⟩
end Go.Proofs.Ytdakilioikhhbaa
