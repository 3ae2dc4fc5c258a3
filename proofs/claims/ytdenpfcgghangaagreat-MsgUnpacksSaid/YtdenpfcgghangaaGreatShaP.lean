/- SHA-256 as plain mathematics on whole numbers: words, rounds, schedule, blocks, padding. No program. -/
import Derived.Test.YtdenpfcgghangaaGreatMem
import Derived.Laws.BitsAllLaws
set_option linter.unusedSimpArgs false
set_option linter.unusedVariables false
namespace Go.Proofs.YtdenpfcgghangaaGreat
open Go.RowKit
def i32 (z : Int) : Value := .int .u32 z
def add32 (a b : Int) : Int := (a + b) % 4294967296
def rot (x m : Int) : Int := bits .or .u32 (x / 2 ^ m.toNat) (x * 2 ^ (32 - m).toNat % 4294967296)
def wd (a b c d : UInt8) : Int := bits .or .u32 (bits .or .u32 (bits .or .u32 ((a.toNat : Int) * 16777216) ((b.toNat : Int) * 65536)) ((c.toNat : Int) * 256)) (d.toNat : Int)
def wdAt (l : List UInt8) (i : Nat) : Int := wd (l.getD i 0) (l.getD (i + 1) 0) (l.getD (i + 2) 0) (l.getD (i + 3) 0)
/-! ### the schedule -/
def sig0 (x : Int) : Int := bits .xor .u32 (bits .xor .u32 (rot x 7) (rot x 18)) (x / 8)
def sig1 (x : Int) : Int := bits .xor .u32 (bits .xor .u32 (rot x 17) (rot x 19)) (x / 1024)
def nextW (W : List Int) : Int := let n := W.length; (sig1 (W.getD (n - 2) 0) + W.getD (n - 7) 0 + sig0 (W.getD (n - 15) 0) + W.getD (n - 16) 0) % 4294967296
def sched0 (l : List UInt8) : List Int := (List.range 16).map (fun i => wdAt l (4 * i))
def schedN (l : List UInt8) : Nat → List Int
 | 0 => sched0 l
 | n + 1 => schedN l n ++ [nextW (schedN l n)]
def sched (l : List UInt8) : List Int := schedN l 48
/-! ### the rounds -/
structure St where
 a : Int
 b : Int
 c : Int
 d : Int
 e : Int
 f : Int
 g : Int
 h : Int
def St.list (s : St) : List Int := [s.a, s.b, s.c, s.d, s.e, s.f, s.g, s.h]
def tee1 (s : St) (k w : Int) : Int :=
 (s.h + bits .xor .u32 (bits .xor .u32 (rot s.e 6) (rot s.e 11)) (rot s.e 25) + bits .xor .u32 (bits .and .u32 s.e s.f) (bits .and .u32 (bits .xor .u32 IntKind.u32.max s.e) s.g) + k + w) % 4294967296
def tee2 (s : St) : Int :=
 (bits .xor .u32 (bits .xor .u32 (rot s.a 2) (rot s.a 13)) (rot s.a 22) + bits .xor .u32 (bits .xor .u32 (bits .and .u32 s.a s.b) (bits .and .u32 s.a s.c)) (bits .and .u32 s.b s.c)) % 4294967296
def rnd (s : St) (k w : Int) : St := ⟨add32 (tee1 s k w) (tee2 s), s.a, s.b, s.c, add32 s.d (tee1 s k w), s.e, s.f, s.g⟩
def kay : List Int := [1116352408, 1899447441, 3049323471, 3921009573, 961987163, 1508970993, 2453635748, 2870763221, 3624381080, 310598401, 607225278, 1426881987, 1925078388, 2162078206, 2614888103, 3248222580, 3835390401, 4022224774, 264347078, 604807628, 770255983, 1249150122, 1555081692, 1996064986, 2554220882, 2821834349, 2952996808, 3210313671, 3336571891, 3584528711, 113926993, 338241895, 666307205, 773529912, 1294757372, 1396182291, 1695183700, 1986661051, 2177026350, 2456956037, 2730485921, 2820302411, 3259730800, 3345764771, 3516065817, 3600352804, 4094571909, 275423344, 430227734, 506948616, 659060556, 883997877, 958139571, 1322822218, 1537002063, 1747873779, 1955562222, 2024104815, 2227730452, 2361852424, 2428436474, 2756734187, 3204031479, 3329325298]
def rnds (W : List Int) (s : St) : Nat → St
 | 0 => s
 | n + 1 => rnd (rnds W s n) (kay.getD n 0) (W.getD n 0)
def St.plus (s t : St) : St := ⟨add32 s.a t.a, add32 s.b t.b, add32 s.c t.c, add32 s.d t.d, add32 s.e t.e, add32 s.f t.f, add32 s.g t.g, add32 s.h t.h⟩
def mixS (s : St) (l : List UInt8) : St := s.plus (rnds (sched l) s 64)
def mixes : Nat → St → List UInt8 → St
 | 0, s, _ => s
 | n + 1, s, l => mixes n (mixS s (l.take 64)) (l.drop 64)
def st0 : St := ⟨1779033703, 3144134277, 1013904242, 2773480762, 1359893119, 2600822924, 528734635, 1541459225⟩
/-! ### padding; the end -/
def len8 (n : Nat) : List UInt8 := (List.range 8).map (fun i => UInt8.ofNat (n * 8 / 2 ^ (8 * (7 - i)) % 256))
def zeros (n : Nat) : Nat := (119 - n % 64) % 64
def ending (r : List UInt8) (n : Nat) : List UInt8 := r ++ [128] ++ List.replicate (zeros n) 0 ++ len8 n
def byteOf (z : Int) : UInt8 := UInt8.ofNat (z % 256).toNat
def outBytes (s : St) : List UInt8 := (List.range 32).map (fun i => byteOf (s.list.getD (i / 4) 0 / 2 ^ (24 - 8 * (i % 4))))
def sumL (l : List UInt8) : List UInt8 := outBytes (mixes ((ending l l.length).length / 64) st0 (ending l l.length))
end Go.Proofs.YtdenpfcgghangaaGreat
