/- Packages part and wire: what the writers of parts without lists write; the texts of stamps, acks, votes, denials. -/
import Derived.Test.YtfmkegblhpnfcaaWd
set_option linter.unusedSimpArgs false
set_option linter.unusedVariables false
namespace Go.Proofs.Ytfmkegblhpnfcaa
open Go.RowKit
set_option maxRecDepth 100000

def sgL (b m : Int) : List UInt8 := encI b ++ encI m
def nmL (c s : Int) : List UInt8 := encI c ++ encI s
def Wst.bare (x : Wst) : List UInt8 := encI x.r ++ nmL x.c x.s ++ x.h ++ enc x.t
def Wst.full (x : Wst) : List UInt8 := x.bare ++ sgL x.b x.m
theorem Wst.bare_len {x : Wst} (hx : x.Ok) : x.bare.length ≤ 72 := by
  have b0 := encI_len x.r hx.r.2
  have b1 := encI_len x.c hx.c.2
  have b2 := encI_len x.s hx.s.2
  have b3 := hx.h
  have b4 := enc_ten hx.t
  simp only [Wst.bare, nmL, List.length_append]
  omega
def Wvt.bare (x : Wvt) : List UInt8 := encI x.k ++ encI x.e ++ encI x.r ++ encI x.p ++ x.h
def Wvt.full (x : Wvt) : List UInt8 := x.bare ++ sgL x.b x.m
theorem Wvt.bare_len {x : Wvt} (hx : x.Ok) : x.bare.length ≤ 72 := by
  have b0 := encI_len x.k hx.k.2
  have b1 := encI_len x.e hx.e.2
  have b2 := encI_len x.r hx.r.2
  have b3 := hx.h
  have b4 := encI_len x.p hx.p.2
  simp only [Wvt.bare, List.length_append]
  omega
def Wdn.bare (x : Wdn) : List UInt8 := encI x.r ++ encI x.i
def Wdn.full (x : Wdn) : List UInt8 := x.bare ++ sgL x.b x.m
theorem Wdn.bare_len {x : Wdn} (hx : x.Ok) : x.bare.length ≤ 72 := by
  have b0 := encI_len x.r hx.r.2
  have b1 := encI_len x.i hx.i.2
  simp only [Wdn.bare, List.length_append]
  omega
def wWst : List UInt8 := [115, 116, 97, 109, 112]
def Wst.text (x : Wst) : List UInt8 := enc wWst.length ++ wWst ++ x.bare
theorem Wst.text_len {x : Wst} (hx : x.Ok) : x.text.length ≤ 100 := by
  have b0 := Wst.bare_len hx
  have b1 := enc_ten (m := wWst.length) (by decide)
  have b2 : wWst.length = 5 := rfl
  simp only [Wst.text, List.length_append]
  omega
def wWvt : List UInt8 := [118, 111, 116, 101]
def Wvt.text (x : Wvt) : List UInt8 := enc wWvt.length ++ wWvt ++ x.bare
theorem Wvt.text_len {x : Wvt} (hx : x.Ok) : x.text.length ≤ 100 := by
  have b0 := Wvt.bare_len hx
  have b1 := enc_ten (m := wWvt.length) (by decide)
  have b2 : wWvt.length = 4 := rfl
  simp only [Wvt.text, List.length_append]
  omega
def wWdn : List UInt8 := [100, 101, 110, 121]
def Wdn.text (x : Wdn) : List UInt8 := enc wWdn.length ++ wWdn ++ x.bare
theorem Wdn.text_len {x : Wdn} (hx : x.Ok) : x.text.length ≤ 100 := by
  have b0 := Wdn.bare_len hx
  have b1 := enc_ten (m := wWdn.length) (by decide)
  have b2 : wWdn.length = 4 := rfl
  simp only [Wdn.text, List.length_append]
  omega
end Go.Proofs.Ytfmkegblhpnfcaa
