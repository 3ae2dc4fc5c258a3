/-
  No cell of these rows narrows 'for every input' (looked for: loops, veiled, ifaces, maps, wideKeys, modest, calm, conditions, laid).
  DERIVED. THE GIVEN ROWS OF THIS SEAT. 3 by the template 'for every input the law returns true; each argument reads behind the call as it read before'; 0 by the template 'total and deterministic' (their statements: YtlkhfhhaallhgaaTotals.lean).
  GIVEN WITH THE SEED: the statements are not yours to turn. If you find one false, say at which input.
  Laid BY PROGRAM, IN A SANDBOX (cutbox-rows.mjs): the forced cells as the released guide's own fill.sh prints them over the translation 2d6892cd38a83a5a… (all of the seat's roots in one cut). By AI agents, Wed Nov 11 2026. No macro, syntax, notation, axiom, sorry.
-/
import Derived.Test.YtlkhfhhaallhgaaChecked
import GoSem.Claim
import GoSem.ClaimJoined
import GoSem.ClaimMapViews
import Derived.JoinedTies
import Derived.KernelRfl
namespace Go.Proofs.Ytlkhfhhaallhgaa
/- THE CELL 'sum', in the pinned program and in every row, IS THE sha256 OF THE DUMP (.gsa) THAT YtlkhfhhaallhgaaProg.lean LOADS. Nothing in Lean hashes anything: it is a label: what it is worth is what the hold of that sum in a sandbox is worth. -/
noncomputable def Try.pinned : Pinned := { name := "ytlkhfhhaallhgaa", sum := "2d6892cd38a83a5a9f3307e0263b482903c9b575a979704b0e0331effefc39b4", checked := Try.checked }
namespace Rows
def none {H : Type} : Left H := { results := [], args := [] }

/-- 'gavellaw10.CertWhole': WHATEVER THE INPUT: true; the input reads as it did. -/
def certWholeSpec : ChangeSpec := { name := "certWhole", fn := fun _ => fun
  | [d1, d2, d3, d4] => { results := [.lit (.bool true)], args := [d1, d2, d3, d4] }
  | _ => none }
def certWholeRow : OpenClaim := { program := "ytlkhfhhaallhgaa", sum := "2d6892cd38a83a5a9f3307e0263b482903c9b575a979704b0e0331effefc39b4", func := "gavel/gavellaw10.CertWhole", spec := "certWhole", unfollowed := true, recurses := true, plainKeys := false, apart := false }
def CertWholeSaid : Prop := certWholeRow.holds Try.pinned (OpenSpec.ofChange certWholeSpec)

/-- ITS FALSE NEIGHBOUR: 'it returns false'. Refute it at one input. -/
def certWholeWrong : ChangeSpec := { name := "certWhole", fn := fun _ => fun
  | [d1, d2, d3, d4] => { results := [.lit (.bool false)], args := [d1, d2, d3, d4] }
  | _ => none }
def CertWholeWrongFalsely : Prop := certWholeRow.holds Try.pinned (OpenSpec.ofChange certWholeWrong)

/-- 'gavellaw10.CertMakes': WHATEVER THE INPUT: true; the input reads as it did. -/
def certMakesSpec : ChangeSpec := { name := "certMakes", fn := fun _ => fun
  | [d1, d2, d3, d4, d5] => { results := [.lit (.bool true)], args := [d1, d2, d3, d4, d5] }
  | _ => none }
def certMakesRow : OpenClaim := { program := "ytlkhfhhaallhgaa", sum := "2d6892cd38a83a5a9f3307e0263b482903c9b575a979704b0e0331effefc39b4", func := "gavel/gavellaw10.CertMakes", spec := "certMakes", unfollowed := true, recurses := true, plainKeys := false, apart := false }
def CertMakesSaid : Prop := certMakesRow.holds Try.pinned (OpenSpec.ofChange certMakesSpec)

/-- ITS FALSE NEIGHBOUR: 'it returns false'. Refute it at one input. -/
def certMakesWrong : ChangeSpec := { name := "certMakes", fn := fun _ => fun
  | [d1, d2, d3, d4, d5] => { results := [.lit (.bool false)], args := [d1, d2, d3, d4, d5] }
  | _ => none }
def CertMakesWrongFalsely : Prop := certMakesRow.holds Try.pinned (OpenSpec.ofChange certMakesWrong)

/-- 'gavellaw10.CertSpans': WHATEVER THE INPUT: true; the input reads as it did. -/
def certSpansSpec : ChangeSpec := { name := "certSpans", fn := fun _ => fun
  | [d1, d2, d3] => { results := [.lit (.bool true)], args := [d1, d2, d3] }
  | _ => none }
def certSpansRow : OpenClaim := { program := "ytlkhfhhaallhgaa", sum := "2d6892cd38a83a5a9f3307e0263b482903c9b575a979704b0e0331effefc39b4", func := "gavel/gavellaw10.CertSpans", spec := "certSpans", unfollowed := true, recurses := true, plainKeys := false, apart := false }
def CertSpansSaid : Prop := certSpansRow.holds Try.pinned (OpenSpec.ofChange certSpansSpec)

/-- ITS FALSE NEIGHBOUR: 'it returns false'. Refute it at one input. -/
def certSpansWrong : ChangeSpec := { name := "certSpans", fn := fun _ => fun
  | [d1, d2, d3] => { results := [.lit (.bool false)], args := [d1, d2, d3] }
  | _ => none }
def CertSpansWrongFalsely : Prop := certSpansRow.holds Try.pinned (OpenSpec.ofChange certSpansWrong)

/- THE SECOND FORM. 'bulk': how many values and letters a reading holds, each counted each time it is reached (what is shared counts as often as it is met; a slice's spare places count too). A statement '..UptoSaid' is the law's where the arguments, and the package variables that the reading takes, are together of bulk at most 1048576: NARROWER than '..Said'. Prove '..Said' where nothing that the law and all that it calls make is longer than what came in: it says more and counts as full. Else prove '..UptoSaid'. A law counts once. -/
mutual
def uptoBulk {H : Type} : DataW H → Nat
  | .lit (.string bytes) => bytes.length + 1
  | .lit _ => 1
  | .nil => 1
  | .ptr d => uptoBulk d + 1
  | .slice elems spare => uptoBulkAll elems + uptoBulkAll spare + 1
  | .agg parts => uptoBulkAll parts + 1
  | .iface _ d => uptoBulk d + 1
  | .map entries => uptoBulkEntries entries + 1
  | .held _ => 1
def uptoBulkAll {H : Type} : List (DataW H) → Nat
  | [] => 0
  | d :: r => uptoBulk d + uptoBulkAll r
def uptoBulkEntries {H : Type} : List (Lit × DataW H) → Nat
  | [] => 0
  | x :: r => uptoBulkEntry x + uptoBulkEntries r
def uptoBulkEntry {H : Type} : Lit × DataW H → Nat
  | (.string bytes, d) => bytes.length + uptoBulk d + 1
  | (_, d) => uptoBulk d + 1
 end
def uptoSmall : (H : Type) → List (DataW H) → Bool := fun _ ds => decide (uptoBulkAll ds ≤ 1048576)
def OpenSpec.upto (s : _root_.Go.ChangeSpec) : _root_.Go.OpenSpec := { _root_.Go.OpenSpec.ofChange s with cond := some uptoSmall }

/-- 'gavellaw10.CertWhole', WHERE WHAT IT READS IS OF BULK AT MOST 1048576: true; the input reads as it did. -/
def certWholeUptoRow : OpenClaim := { program := "ytlkhfhhaallhgaa", sum := "2d6892cd38a83a5a9f3307e0263b482903c9b575a979704b0e0331effefc39b4", func := "gavel/gavellaw10.CertWhole", spec := "certWhole", unfollowed := true, recurses := true, plainKeys := false, apart := false, narrowed := true }
def CertWholeUptoSaid : Prop := certWholeUptoRow.holds Try.pinned (OpenSpec.upto certWholeSpec)

/-- 'gavellaw10.CertMakes', WHERE WHAT IT READS IS OF BULK AT MOST 1048576: true; the input reads as it did. -/
def certMakesUptoRow : OpenClaim := { program := "ytlkhfhhaallhgaa", sum := "2d6892cd38a83a5a9f3307e0263b482903c9b575a979704b0e0331effefc39b4", func := "gavel/gavellaw10.CertMakes", spec := "certMakes", unfollowed := true, recurses := true, plainKeys := false, apart := false, narrowed := true }
def CertMakesUptoSaid : Prop := certMakesUptoRow.holds Try.pinned (OpenSpec.upto certMakesSpec)

/-- 'gavellaw10.CertSpans', WHERE WHAT IT READS IS OF BULK AT MOST 1048576: true; the input reads as it did. -/
def certSpansUptoRow : OpenClaim := { program := "ytlkhfhhaallhgaa", sum := "2d6892cd38a83a5a9f3307e0263b482903c9b575a979704b0e0331effefc39b4", func := "gavel/gavellaw10.CertSpans", spec := "certSpans", unfollowed := true, recurses := true, plainKeys := false, apart := false, narrowed := true }
def CertSpansUptoSaid : Prop := certSpansUptoRow.holds Try.pinned (OpenSpec.upto certSpansSpec)

end Rows
end Go.Proofs.Ytlkhfhhaallhgaa
