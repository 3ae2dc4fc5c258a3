/- Binary digits that are 1: how math/bits.OnesCount64 reckons, and what that is. Plain lemmas; no program. -/
namespace Go.Proofs.Ytfmkegblhpnfcaa
namespace Pop
def val : List Nat → Nat
  | [] => 0
  | b :: l => b + 256 * val l
def rep (c : Nat) : Nat → Nat
  | 0 => 0
  | n + 1 => c + 256 * rep c n
def g1 (b : Nat) : Nat := ((b / 2) &&& 85) + (b &&& 85)
def g2 (b : Nat) : Nat := ((b / 4) &&& 51) + (b &&& 51)
def g3 (b : Nat) : Nat := b / 16 + b % 16
theorem and_split (a b m c : Nat) (hb : b < 256) (hc : c < 256) : (b + 256 * a) &&& (c + 256 * m) = (b &&& c) + 256 * (a &&& m) := by
  have hbc : b &&& c < 256 := Nat.lt_of_le_of_lt Nat.and_le_left hb
  apply Nat.eq_of_testBit_eq
  intro i
  have e1 := Nat.testBit_two_pow_mul_add a (i := 8) hb i
  have e2 := Nat.testBit_two_pow_mul_add m (i := 8) hc i
  have e3 := Nat.testBit_two_pow_mul_add (a &&& m) (i := 8) hbc i
  rw [Nat.testBit_and, show b + 256 * a = 2 ^ 8 * a + b by omega, show c + 256 * m = 2 ^ 8 * m + c by omega, show (b &&& c) + 256 * (a &&& m) = 2 ^ 8 * (a &&& m) + (b &&& c) by omega, e1, e2, e3]
  split
  · rw [Nat.testBit_and]
  · rw [Nat.testBit_and]
theorem t1 : ∀ b : Fin 256, ∀ e : Fin 2, (b.val / 2 + 128 * e.val) &&& 85 = (b.val / 2) &&& 85 := by decide +kernel
theorem t2 : ∀ b : Fin 256, ∀ e : Fin 4, (b.val / 4 + 64 * e.val) &&& 51 = (b.val / 4) &&& 51 := by decide +kernel
theorem t3 : ∀ b : Fin 69, ∀ e : Fin 5, b.val % 16 ≤ 4 → (b.val / 16 + b.val + 16 * e.val) &&& 15 = g3 b.val := by decide +kernel
theorem s1 : ∀ l : List Nat, (∀ b ∈ l, b < 256) → (val l / 2 &&& rep 85 l.length) + (val l &&& rep 85 l.length) = val (l.map g1) := by
  intro l
  induction l with
  | nil => intro _; rfl
  | cons b l ih =>
    intro h
    have hb := h b (by simp)
    have h' := ih (fun x hx => h x (by simp [hx]))
    generalize hv : val l = v at h'
    simp only [val, List.map_cons, List.length_cons, rep, ← h', hv]
    have e : (b + 256 * v) / 2 = (b / 2 + 128 * (v % 2)) + 256 * (v / 2) := by omega
    rw [e, and_split _ _ _ _ (by omega) (by omega), and_split _ _ _ _ hb (by omega)]
    have := t1 ⟨b, hb⟩ ⟨v % 2, by omega⟩
    simp only at this
    rw [this, g1]
    omega
theorem s2 : ∀ l : List Nat, (∀ b ∈ l, b < 256) → (val l / 4 &&& rep 51 l.length) + (val l &&& rep 51 l.length) = val (l.map g2) := by
  intro l
  induction l with
  | nil => intro _; rfl
  | cons b l ih =>
    intro h
    have hb := h b (by simp)
    have h' := ih (fun x hx => h x (by simp [hx]))
    generalize hv : val l = v at h'
    simp only [val, List.map_cons, List.length_cons, rep, ← h', hv]
    have e : (b + 256 * v) / 4 = (b / 4 + 64 * (v % 4)) + 256 * (v / 4) := by omega
    rw [e, and_split _ _ _ _ (by omega) (by omega), and_split _ _ _ _ hb (by omega)]
    have := t2 ⟨b, hb⟩ ⟨v % 4, by omega⟩
    simp only at this
    rw [this, g2]
    omega
def nib (b : Nat) : Prop := b < 69 ∧ b % 16 ≤ 4
theorem s3 : ∀ l : List Nat, (∀ b ∈ l, nib b) → (val l / 16 + val l) &&& rep 15 l.length = val (l.map g3) ∧ val l % 16 ≤ 4 := by
  intro l
  induction l with
  | nil => intro _; exact ⟨rfl, by decide⟩
  | cons b l ih =>
    intro h
    have hb := h b (by simp)
    obtain ⟨h', h2⟩ := ih (fun x hx => h x (by simp [hx]))
    generalize hv : val l = v at h' h2
    simp only [val, List.map_cons, List.length_cons, rep, ← h', hv]
    have hb1 := hb.1
    have hb2 := hb.2
    refine ⟨?_, by omega⟩
    have e : (b + 256 * v) / 16 + (b + 256 * v) = (b / 16 + b + 16 * (v % 16)) + 256 * (v / 16 + v) := by omega
    rw [e, and_split _ _ _ _ (by omega) (by omega)]
    have := t3 ⟨b, hb1⟩ ⟨v % 16, by omega⟩ hb2
    simp only at this
    rw [this]
def pc (b : Nat) : Nat := g3 (g2 (g1 b))
theorem t4 : ∀ b : Fin 256, g1 b.val < 256 ∧ g2 (g1 b.val) < 69 ∧ g2 (g1 b.val) % 16 ≤ 4 ∧ pc b.val ≤ 8 := by decide +kernel
/-- as many binary digits of n are 1 -/
def pop : Nat → Nat → Nat
  | 0, _ => 0
  | n + 1, x => x % 2 + pop n (x / 2)
theorem t5 : ∀ b : Fin 256, pop 8 b.val = pc b.val := by decide +kernel
theorem pop8 (n x : Nat) : pop (n + 8) x = pop 8 (x % 256) + pop n (x / 256) := by
  have e : x / 2 / 2 / 2 / 2 / 2 / 2 / 2 / 2 = x / 256 := by omega
  simp only [pop, e]
  omega
theorem fold (c0 c1 c2 c3 c4 c5 c6 c7 x : Nat) (h0 : c0 ≤ 8) (h1 : c1 ≤ 8) (h2 : c2 ≤ 8) (h3 : c3 ≤ 8) (h4 : c4 ≤ 8) (h5 : c5 ≤ 8) (h6 : c6 ≤ 8) (h7 : c7 ≤ 8)
    (hx : x = c0 + 256 * (c1 + 256 * (c2 + 256 * (c3 + 256 * (c4 + 256 * (c5 + 256 * (c6 + 256 * c7))))))) (y z f : Nat) (hy : y = x + x / 256) (hz : z = y + y / 65536) (hf : f = z + z / 4294967296) :
    x < 1000000000000000000 ∧ y < 2000000000000000000 ∧ z < 4000000000000000000 ∧ f < 8000000000000000000 ∧ f % 128 = c0 + c1 + c2 + c3 + c4 + c5 + c6 + c7 := by
  obtain ⟨a6, e6⟩ : ∃ a, a = c6 + 256 * c7 := ⟨_, rfl⟩
  rw [← e6] at hx
  obtain ⟨a5, e5⟩ : ∃ a, a = c5 + 256 * a6 := ⟨_, rfl⟩
  rw [← e5] at hx
  obtain ⟨a4, e4⟩ : ∃ a, a = c4 + 256 * a5 := ⟨_, rfl⟩
  rw [← e4] at hx
  obtain ⟨a3, e3⟩ : ∃ a, a = c3 + 256 * a4 := ⟨_, rfl⟩
  rw [← e3] at hx
  obtain ⟨a2, e2⟩ : ∃ a, a = c2 + 256 * a3 := ⟨_, rfl⟩
  rw [← e2] at hx
  obtain ⟨a1, e1⟩ : ∃ a, a = c1 + 256 * a2 := ⟨_, rfl⟩
  rw [← e1] at hx
  have b6 : a6 ≤ 2056 := by omega
  have b5 : a5 ≤ 526344 := by clear hx hy hz hf e1 e2 e3 e4; omega
  have b4 : a4 ≤ 134744072 := by clear hx hy hz hf e1 e2 e3 e5 e6; omega
  have b3 : a3 ≤ 34494482440 := by clear hx hy hz hf e1 e2 e4 e5 e6; omega
  have b2 : a2 ≤ 8830587504648 := by clear hx hy hz hf e1 e3 e4 e5 e6; omega
  have b1 : a1 ≤ 2260630401189896 := by clear hx hy hz hf e2 e3 e4 e5 e6; omega
  have d1 : x / 256 = a1 := by clear hy hz hf e2 e3 e4 e5 e6; omega
  rw [d1] at hy
  have bx : x < 1000000000000000000 := by clear hy hz hf e1 e2 e3 e4 e5 e6; omega
  have hy2 : y = (c0 + c1 + 256 * (c1 + c2)) + 65536 * (a2 + a3) := by clear hz hf e3 e4 e5 e6; omega
  have d2 : y / 65536 = a2 + a3 := by clear hz hf hx hy e1 e2 e3 e4 e5 e6; omega
  rw [d2] at hz
  have by' : y < 2000000000000000000 := by clear hz hf hx hy e1 e2 e3 e4 e5 e6; omega
  have g2 : a2 = c2 + 256 * c3 + 65536 * c4 + 16777216 * c5 + 4294967296 * a6 := by clear hz hf hx hy hy2 d1 d2; omega
  have g3 : a3 = c3 + 256 * c4 + 65536 * c5 + 16777216 * c6 + 4294967296 * c7 := by clear hz hf hx hy hy2 d1 d2 g2; omega
  have g23 : 65536 * (a2 + a3) = 65536 * (c2 + c3) + 16777216 * (c3 + c4) + 4294967296 * (a4 + a5) := by clear hz hf hx hy hy2 d1 d2 g2 g3; omega
  have hz2 : z = (c0 + c1 + c2 + c3 + 256 * (c1 + c2 + c3 + c4) + 65536 * (c2 + c3 + c4 + c5) + 16777216 * (c3 + c4 + c5 + c6)) + 4294967296 * (a4 + a5 + a6 + c7) := by clear hf hx hy d1 d2 e1 e2 e3 e4 e5 e6; omega
  have d3 : z / 4294967296 = a4 + a5 + a6 + c7 := by clear hf hx hy hz hy2 d1 d2 e1 e2 e3 e4 e5 e6 g2 g3 g23; omega
  rw [d3] at hf
  have bz : z < 4000000000000000000 := by clear hf hx hy hy2 d1 d2 d3 e1 e2 e3 e4 e5 e6 g2 g3 g23 hz2; omega
  have hf2 : f = (c0 + c1 + c2 + c3 + c4 + c5 + c6 + c7) + 128 * (2 * (c1 + c2 + c3 + c4) + 512 * (c2 + c3 + c4 + c5) + 131072 * (c3 + c4 + c5 + c6) + 33554432 * (a4 + a5 + a6 + c7) + 2 * (a5 + a6 + c7)) := by clear hx hy hz hy2 d1 d2 d3 e1 e2 e3 g2 g3 g23; omega
  refine ⟨bx, by', bz, by clear hx hy hz hy2 d1 d2 d3 e1 e2 e3 g2 g3 g23 hz2 hf2 e4 e5 e6; omega, by clear hx hy hz hf hz2 hy2 d1 d2 d3 e1 e2 e3 g2 g3 g23 e4 e5 e6; omega⟩
theorem bytes8 (x : Nat) (hx : x < 18446744073709551616) : x = val [x % 256, x / 256 % 256, x / 65536 % 256, x / 16777216 % 256, x / 4294967296 % 256, x / 1099511627776 % 256, x / 281474976710656 % 256, x / 72057594037927936] := by
  simp only [val]
  omega

set_option maxHeartbeats 1000000 in
theorem ones (x : Nat) (hx : x < 18446744073709551616) (a b c d e f : Nat)
    (ha : a = (x / 2 &&& 6148914691236517205) + (x &&& 6148914691236517205))
    (hb : b = (a / 4 &&& 3689348814741910323) + (a &&& 3689348814741910323))
    (hc : c = (b / 16 + b) &&& 1085102592571150095)
    (hd : d = c + c / 256) (he : e = d + d / 65536) (hf : f = e + e / 4294967296) :
    a < 18446744073709551616 ∧ b < 8000000000000000000 ∧ b / 16 + b < 18446744073709551616 ∧ c < 1000000000000000000 ∧ d < 2000000000000000000 ∧ e < 4000000000000000000 ∧ f < 8000000000000000000 ∧ f % 128 = pop 64 x := by
  obtain ⟨l, hl⟩ : ∃ l, l = [x % 256, x / 256 % 256, x / 65536 % 256, x / 16777216 % 256, x / 4294967296 % 256, x / 1099511627776 % 256, x / 281474976710656 % 256, x / 72057594037927936] := ⟨_, rfl⟩
  have hlen : l.length = 8 := by rw [hl]; rfl
  have hb8 : ∀ y ∈ l, y < 256 := by
    rw [hl]
    intro y hy
    simp only [List.mem_cons, List.not_mem_nil, or_false] at hy
    omega
  have h1 := s1 l hb8
  have h2 := s2 (l.map g1) (fun y hy => by
    obtain ⟨q, hq, rfl⟩ := List.mem_map.1 hy
    exact (t4 ⟨q, hb8 q hq⟩).1)
  have h3 := s3 ((l.map g1).map g2) (fun y hy => by
    obtain ⟨q, hq, rfl⟩ := List.mem_map.1 hy
    obtain ⟨r, hr, rfl⟩ := List.mem_map.1 hq
    exact ⟨(t4 ⟨r, hb8 r hr⟩).2.1, (t4 ⟨r, hb8 r hr⟩).2.2.1⟩)
  have hx' : x = val l := by rw [hl]; exact bytes8 x hx
  simp only [List.length_map, hlen] at h1 h2 h3
  rw [show rep 85 8 = 6148914691236517205 by decide, ← hx', ← ha] at h1
  rw [show rep 51 8 = 3689348814741910323 by decide, ← h1, ← hb] at h2
  rw [show rep 15 8 = 1085102592571150095 by decide, ← h2, ← hc] at h3
  have hc' := h3.1
  have hbv := h2
  have hav := h1
  have hpc : ∀ y : Nat, y < 256 → g1 y < 256 ∧ g2 (g1 y) < 69 ∧ pc y ≤ 8 := fun y hy => ⟨(t4 ⟨y, hy⟩).1, (t4 ⟨y, hy⟩).2.1, (t4 ⟨y, hy⟩).2.2.2⟩
  have p0 := hpc (x % 256) (by omega)
  have p1 := hpc (x / 256 % 256) (by omega)
  have p2 := hpc (x / 65536 % 256) (by omega)
  have p3 := hpc (x / 16777216 % 256) (by omega)
  have p4 := hpc (x / 4294967296 % 256) (by omega)
  have p5 := hpc (x / 1099511627776 % 256) (by omega)
  have p6 := hpc (x / 281474976710656 % 256) (by omega)
  have p7 := hpc (x / 72057594037927936) (by omega)
  have ha2 : a < 18446744073709551616 := by
    rw [hav, hl]
    simp only [List.map_cons, List.map_nil, val]
    omega
  have hb2 : b < 8000000000000000000 := by
    rw [hbv, hl]
    simp only [List.map_cons, List.map_nil, val]
    omega
  have hc2 : c = pc (x % 256) + 256 * (pc (x / 256 % 256) + 256 * (pc (x / 65536 % 256) + 256 * (pc (x / 16777216 % 256) + 256 * (pc (x / 4294967296 % 256) + 256 * (pc (x / 1099511627776 % 256) + 256 * (pc (x / 281474976710656 % 256) + 256 * pc (x / 72057594037927936))))))) := by
    rw [hc', hl]
    simp only [List.map_cons, List.map_nil, val, pc]
    omega
  have hF := fold _ _ _ _ _ _ _ _ c p0.2.2 p1.2.2 p2.2.2 p3.2.2 p4.2.2 p5.2.2 p6.2.2 p7.2.2 hc2 d e f hd he hf
  refine ⟨ha2, hb2, by omega, hF.1, hF.2.1, hF.2.2.1, hF.2.2.2.1, ?_⟩
  rw [hF.2.2.2.2]
  have hq : ∀ y : Nat, y < 256 → pc y = pop 8 y := fun y hy => (t5 ⟨y, hy⟩).symm
  rw [hq _ (by omega), hq _ (by omega), hq _ (by omega), hq _ (by omega), hq _ (by omega), hq _ (by omega), hq _ (by omega), hq _ (by omega)]
  have q0 : pop 64 x = pop 8 (x % 256) + pop 56 (x / 256) := pop8 56 x
  have q1 : pop 56 (x / 256) = pop 8 (x / 256 % 256) + pop 48 (x / 65536) := by
    have h := pop8 48 (x / 256)
    rw [Nat.div_div_eq_div_mul] at h
    exact h
  have q2 : pop 48 (x / 65536) = pop 8 (x / 65536 % 256) + pop 40 (x / 16777216) := by
    have h := pop8 40 (x / 65536)
    rw [Nat.div_div_eq_div_mul] at h
    exact h
  have q3 : pop 40 (x / 16777216) = pop 8 (x / 16777216 % 256) + pop 32 (x / 4294967296) := by
    have h := pop8 32 (x / 16777216)
    rw [Nat.div_div_eq_div_mul] at h
    exact h
  have q4 : pop 32 (x / 4294967296) = pop 8 (x / 4294967296 % 256) + pop 24 (x / 1099511627776) := by
    have h := pop8 24 (x / 4294967296)
    rw [Nat.div_div_eq_div_mul] at h
    exact h
  have q5 : pop 24 (x / 1099511627776) = pop 8 (x / 1099511627776 % 256) + pop 16 (x / 281474976710656) := by
    have h := pop8 16 (x / 1099511627776)
    rw [Nat.div_div_eq_div_mul] at h
    exact h
  have q6 : pop 16 (x / 281474976710656) = pop 8 (x / 281474976710656 % 256) + pop 8 (x / 72057594037927936) := by
    have h := pop8 8 (x / 281474976710656)
    rw [Nat.div_div_eq_div_mul] at h
    exact h
  have q7 : pop 8 (x / 72057594037927936) = pop 8 (x / 72057594037927936 % 256) + pop 0 (x / 18446744073709551616) := by
    have h := pop8 0 (x / 72057594037927936)
    rw [Nat.div_div_eq_div_mul] at h
    exact h
  have q8 : x / 72057594037927936 % 256 = x / 72057594037927936 := by omega
  have q9 : pop 0 (x / 18446744073709551616) = 0 := rfl
  rw [q8] at q7
  omega
theorem pop_or : ∀ (n p x : Nat), p < n → x.testBit p = false → pop n (x ||| 2 ^ p) = pop n x + 1 := by
  intro n
  induction n with
  | zero => intro p x h; omega
  | succ n ih =>
    intro p x h hx
    cases p with
    | zero =>
      have h0 : x % 2 = 0 := by simpa [Nat.testBit_zero] using hx
      have e1 : (x ||| 2 ^ 0) / 2 = x / 2 := by simp [Nat.or_div_two]
      have e2 : (x ||| 2 ^ 0) % 2 = 1 := by rw [Nat.or_mod_two_eq_one]; right; rfl
      simp only [pop, e1, e2]
      omega
    | succ p =>
      have e1 : (x ||| 2 ^ (p + 1)) / 2 = x / 2 ||| 2 ^ p := by rw [Nat.or_div_two, Nat.pow_succ, Nat.mul_div_cancel _ (by omega)]
      have e2 : (x ||| 2 ^ (p + 1)) % 2 = x % 2 := by
        have := Nat.or_mod_two_eq_one (a := x) (b := 2 ^ (p + 1))
        have h2 : 2 ^ (p + 1) % 2 = 0 := by rw [Nat.pow_succ]; omega
        omega
      simp only [pop, e1, e2]
      rw [ih p (x / 2) (by omega) (by rw [← Nat.testBit_succ]; exact hx)]
      omega
theorem pop_zero (n : Nat) : pop n 0 = 0 := by
  induction n with
  | zero => rfl
  | succ n ih => simp [pop, ih]
end Pop
end Go.Proofs.Ytfmkegblhpnfcaa
