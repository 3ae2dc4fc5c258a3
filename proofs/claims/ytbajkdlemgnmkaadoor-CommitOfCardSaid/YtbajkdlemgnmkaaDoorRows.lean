/-
  NARROWER THAN 'FOR EVERY INPUT', by the rows' own cells (each row's printed sentence says how): ShaRows: laid · ShaOrder: laid · ShaSets: laid · ShaBlocks: laid · ShaApart: laid · CommitLimits: laid · CommitAgain: laid · CommitOf: laid · CommitRight: laid · CommitUnlike: laid.
  DERIVED. THE GIVEN ROWS OF THIS SEAT. 10 by the template 'for every input the law returns true; each argument reads behind the call as it read before'; 0 by the template 'total and deterministic' (their statements: YtbajkdlemgnmkaaDoorTotals.lean).
  GIVEN WITH THE SEED: the statements are not yours to turn. If you find one false, say at which input.
  Laid BY PROGRAM, IN A SANDBOX (cutbox-rows.mjs): the forced cells as the released guide's own fill.sh prints them over the translation 126372ec4e5943d4… (all of the seat's roots in one cut). By AI agents, Wed Nov 11 2026. No macro, syntax, notation, axiom, sorry.
-/
import Derived.Test.YtbajkdlemgnmkaaDoorChecked
import GoSem.Claim
import GoSem.ClaimJoined
import GoSem.ClaimMapViews
import Derived.JoinedTies
import Derived.KernelRfl
namespace Go.Proofs.YtbajkdlemgnmkaaDoor
/- THE CELL 'sum', in the pinned program and in every row, IS THE sha256 OF THE DUMP (.gsa) THAT YtbajkdlemgnmkaaDoorProg.lean LOADS. Nothing in Lean hashes anything: it is a label: what it is worth is what the hold of that sum in a sandbox is worth. -/
noncomputable def Tryd.pinned : Pinned := { name := "ytbajkdlemgnmkaadoor", sum := "126372ec4e5943d482e6cd6ce07de306cf4e1b65f19979190a93ddc6d38ade73", checked := Tryd.checked }
namespace Rows
def none {H : Type} : Left H := { results := [], args := [] }

/- WHAT THE LISTED PACKAGE-LEVEL VARIABLES READ AS WHEN THE CALL BEGINS. Each datum BY PROGRAM (the guide's laid-datum.mjs) off the statement by which the dump's own 'gosem.cut.vars' lays the variable. In a bare row this is a premise. The card (YtbajkdlemgnmkaaDoorCards.lean) ties it to the program's text. -/
def laid_gavel_sha_roundWords {H : Type} : DataW H := .agg [.lit (.int .u32 1116352408), .lit (.int .u32 1899447441), .lit (.int .u32 3049323471), .lit (.int .u32 3921009573), .lit (.int .u32 961987163), .lit (.int .u32 1508970993), .lit (.int .u32 2453635748), .lit (.int .u32 2870763221), .lit (.int .u32 3624381080), .lit (.int .u32 310598401), .lit (.int .u32 607225278), .lit (.int .u32 1426881987), .lit (.int .u32 1925078388), .lit (.int .u32 2162078206), .lit (.int .u32 2614888103), .lit (.int .u32 3248222580), .lit (.int .u32 3835390401), .lit (.int .u32 4022224774), .lit (.int .u32 264347078), .lit (.int .u32 604807628), .lit (.int .u32 770255983), .lit (.int .u32 1249150122), .lit (.int .u32 1555081692), .lit (.int .u32 1996064986), .lit (.int .u32 2554220882), .lit (.int .u32 2821834349), .lit (.int .u32 2952996808), .lit (.int .u32 3210313671), .lit (.int .u32 3336571891), .lit (.int .u32 3584528711), .lit (.int .u32 113926993), .lit (.int .u32 338241895), .lit (.int .u32 666307205), .lit (.int .u32 773529912), .lit (.int .u32 1294757372), .lit (.int .u32 1396182291), .lit (.int .u32 1695183700), .lit (.int .u32 1986661051), .lit (.int .u32 2177026350), .lit (.int .u32 2456956037), .lit (.int .u32 2730485921), .lit (.int .u32 2820302411), .lit (.int .u32 3259730800), .lit (.int .u32 3345764771), .lit (.int .u32 3516065817), .lit (.int .u32 3600352804), .lit (.int .u32 4094571909), .lit (.int .u32 275423344), .lit (.int .u32 430227734), .lit (.int .u32 506948616), .lit (.int .u32 659060556), .lit (.int .u32 883997877), .lit (.int .u32 958139571), .lit (.int .u32 1322822218), .lit (.int .u32 1537002063), .lit (.int .u32 1747873779), .lit (.int .u32 1955562222), .lit (.int .u32 2024104815), .lit (.int .u32 2227730452), .lit (.int .u32 2361852424), .lit (.int .u32 2428436474), .lit (.int .u32 2756734187), .lit (.int .u32 3204031479), .lit (.int .u32 3329325298)]

/-- 'gavellaw02.ShaRows': WHATEVER THE INPUT: true; the input reads as it did. -/
def shaRowsSpec : ChangeSpec := { name := "shaRows", fn := fun _ => fun
  | [d1, d2] => { results := [.lit (.bool true)], args := [d1, d2] }
  | _ => none }
def shaRowsRow : OpenClaim := { program := "ytbajkdlemgnmkaadoor", sum := "126372ec4e5943d482e6cd6ce07de306cf4e1b65f19979190a93ddc6d38ade73", func := "gavel/gavellaw02.ShaRows", spec := "shaRows", named := ["gavel/sha.roundWords"], plainKeys := false, apart := false, laid := [("gavel/sha.roundWords", laid_gavel_sha_roundWords)] }
def ShaRowsSaid : Prop := shaRowsRow.holds Tryd.pinned (OpenSpec.ofChange shaRowsSpec)

/-- ITS FALSE NEIGHBOUR: 'it returns false'. Refute it at one input. -/
def shaRowsWrong : ChangeSpec := { name := "shaRows", fn := fun _ => fun
  | [d1, d2] => { results := [.lit (.bool false)], args := [d1, d2] }
  | _ => none }
def ShaRowsWrongFalsely : Prop := shaRowsRow.holds Tryd.pinned (OpenSpec.ofChange shaRowsWrong)

/-- 'gavellaw02.ShaOrder': WHATEVER THE INPUT: true; the input reads as it did. -/
def shaOrderSpec : ChangeSpec := { name := "shaOrder", fn := fun _ => fun
  | [d1, d2, d3] => { results := [.lit (.bool true)], args := [d1, d2, d3] }
  | _ => none }
def shaOrderRow : OpenClaim := { program := "ytbajkdlemgnmkaadoor", sum := "126372ec4e5943d482e6cd6ce07de306cf4e1b65f19979190a93ddc6d38ade73", func := "gavel/gavellaw02.ShaOrder", spec := "shaOrder", inPlace := ["internal/bytealg.Compare"], named := ["gavel/sha.roundWords"], plainKeys := false, apart := false, laid := [("gavel/sha.roundWords", laid_gavel_sha_roundWords)] }
def ShaOrderSaid : Prop := shaOrderRow.holds Tryd.pinned (OpenSpec.ofChange shaOrderSpec)

/-- ITS FALSE NEIGHBOUR: 'it returns false'. Refute it at one input. -/
def shaOrderWrong : ChangeSpec := { name := "shaOrder", fn := fun _ => fun
  | [d1, d2, d3] => { results := [.lit (.bool false)], args := [d1, d2, d3] }
  | _ => none }
def ShaOrderWrongFalsely : Prop := shaOrderRow.holds Tryd.pinned (OpenSpec.ofChange shaOrderWrong)

/-- 'gavellaw02.ShaSets': WHATEVER THE INPUT: true; the input reads as it did. -/
def shaSetsSpec : ChangeSpec := { name := "shaSets", fn := fun _ => fun
  | [d] => { results := [.lit (.bool true)], args := [d] }
  | _ => none }
def shaSetsRow : OpenClaim := { program := "ytbajkdlemgnmkaadoor", sum := "126372ec4e5943d482e6cd6ce07de306cf4e1b65f19979190a93ddc6d38ade73", func := "gavel/gavellaw02.ShaSets", spec := "shaSets", named := ["gavel/sha.roundWords"], plainKeys := false, apart := false, laid := [("gavel/sha.roundWords", laid_gavel_sha_roundWords)] }
def ShaSetsSaid : Prop := shaSetsRow.holds Tryd.pinned (OpenSpec.ofChange shaSetsSpec)

/-- ITS FALSE NEIGHBOUR: 'it returns false'. Refute it at one input. -/
def shaSetsWrong : ChangeSpec := { name := "shaSets", fn := fun _ => fun
  | [d] => { results := [.lit (.bool false)], args := [d] }
  | _ => none }
def ShaSetsWrongFalsely : Prop := shaSetsRow.holds Tryd.pinned (OpenSpec.ofChange shaSetsWrong)

/-- 'gavellaw02.ShaBlocks': WHATEVER THE INPUT: true; the input reads as it did. -/
def shaBlocksSpec : ChangeSpec := { name := "shaBlocks", fn := fun _ => fun
  | [d1, d2, d3] => { results := [.lit (.bool true)], args := [d1, d2, d3] }
  | _ => none }
def shaBlocksRow : OpenClaim := { program := "ytbajkdlemgnmkaadoor", sum := "126372ec4e5943d482e6cd6ce07de306cf4e1b65f19979190a93ddc6d38ade73", func := "gavel/gavellaw02.ShaBlocks", spec := "shaBlocks", named := ["gavel/sha.roundWords"], plainKeys := false, apart := false, laid := [("gavel/sha.roundWords", laid_gavel_sha_roundWords)] }
def ShaBlocksSaid : Prop := shaBlocksRow.holds Tryd.pinned (OpenSpec.ofChange shaBlocksSpec)

/-- ITS FALSE NEIGHBOUR: 'it returns false'. Refute it at one input. -/
def shaBlocksWrong : ChangeSpec := { name := "shaBlocks", fn := fun _ => fun
  | [d1, d2, d3] => { results := [.lit (.bool false)], args := [d1, d2, d3] }
  | _ => none }
def ShaBlocksWrongFalsely : Prop := shaBlocksRow.holds Tryd.pinned (OpenSpec.ofChange shaBlocksWrong)

/-- 'gavellaw02.ShaApart': WHATEVER THE INPUT: true; the input reads as it did. -/
def shaApartSpec : ChangeSpec := { name := "shaApart", fn := fun _ => fun
  | [d1, d2] => { results := [.lit (.bool true)], args := [d1, d2] }
  | _ => none }
def shaApartRow : OpenClaim := { program := "ytbajkdlemgnmkaadoor", sum := "126372ec4e5943d482e6cd6ce07de306cf4e1b65f19979190a93ddc6d38ade73", func := "gavel/gavellaw02.ShaApart", spec := "shaApart", named := ["gavel/sha.roundWords"], plainKeys := false, apart := false, laid := [("gavel/sha.roundWords", laid_gavel_sha_roundWords)] }
def ShaApartSaid : Prop := shaApartRow.holds Tryd.pinned (OpenSpec.ofChange shaApartSpec)

/-- ITS FALSE NEIGHBOUR: 'it returns false'. Refute it at one input. -/
def shaApartWrong : ChangeSpec := { name := "shaApart", fn := fun _ => fun
  | [d1, d2] => { results := [.lit (.bool false)], args := [d1, d2] }
  | _ => none }
def ShaApartWrongFalsely : Prop := shaApartRow.holds Tryd.pinned (OpenSpec.ofChange shaApartWrong)

/-- 'gavellaw04.CommitLimits': WHATEVER THE INPUT: true; the input reads as it did. -/
def commitLimitsSpec : ChangeSpec := { name := "commitLimits", fn := fun _ => fun
  | [d1, d2, d3, d4] => { results := [.lit (.bool true)], args := [d1, d2, d3, d4] }
  | _ => none }
def commitLimitsRow : OpenClaim := { program := "ytbajkdlemgnmkaadoor", sum := "126372ec4e5943d482e6cd6ce07de306cf4e1b65f19979190a93ddc6d38ade73", func := "gavel/gavellaw04.CommitLimits", spec := "commitLimits", named := ["gavel/sha.roundWords"], plainKeys := false, apart := false, laid := [("gavel/sha.roundWords", laid_gavel_sha_roundWords)] }
def CommitLimitsSaid : Prop := commitLimitsRow.holds Tryd.pinned (OpenSpec.ofChange commitLimitsSpec)

/-- ITS FALSE NEIGHBOUR: 'it returns false'. Refute it at one input. -/
def commitLimitsWrong : ChangeSpec := { name := "commitLimits", fn := fun _ => fun
  | [d1, d2, d3, d4] => { results := [.lit (.bool false)], args := [d1, d2, d3, d4] }
  | _ => none }
def CommitLimitsWrongFalsely : Prop := commitLimitsRow.holds Tryd.pinned (OpenSpec.ofChange commitLimitsWrong)

/-- 'gavellaw04.CommitAgain': WHATEVER THE INPUT: true; the input reads as it did. -/
def commitAgainSpec : ChangeSpec := { name := "commitAgain", fn := fun _ => fun
  | [d1, d2, d3, d4] => { results := [.lit (.bool true)], args := [d1, d2, d3, d4] }
  | _ => none }
def commitAgainRow : OpenClaim := { program := "ytbajkdlemgnmkaadoor", sum := "126372ec4e5943d482e6cd6ce07de306cf4e1b65f19979190a93ddc6d38ade73", func := "gavel/gavellaw04.CommitAgain", spec := "commitAgain", named := ["gavel/sha.roundWords"], plainKeys := false, apart := false, laid := [("gavel/sha.roundWords", laid_gavel_sha_roundWords)] }
def CommitAgainSaid : Prop := commitAgainRow.holds Tryd.pinned (OpenSpec.ofChange commitAgainSpec)

/-- ITS FALSE NEIGHBOUR: 'it returns false'. Refute it at one input. -/
def commitAgainWrong : ChangeSpec := { name := "commitAgain", fn := fun _ => fun
  | [d1, d2, d3, d4] => { results := [.lit (.bool false)], args := [d1, d2, d3, d4] }
  | _ => none }
def CommitAgainWrongFalsely : Prop := commitAgainRow.holds Tryd.pinned (OpenSpec.ofChange commitAgainWrong)

/-- 'gavellaw04.CommitOf': WHATEVER THE INPUT: true; the input reads as it did. -/
def commitOfSpec : ChangeSpec := { name := "commitOf", fn := fun _ => fun
  | [d1, d2, d3, d4, d5, d6, d7] => { results := [.lit (.bool true)], args := [d1, d2, d3, d4, d5, d6, d7] }
  | _ => none }
def commitOfRow : OpenClaim := { program := "ytbajkdlemgnmkaadoor", sum := "126372ec4e5943d482e6cd6ce07de306cf4e1b65f19979190a93ddc6d38ade73", func := "gavel/gavellaw04.CommitOf", spec := "commitOf", named := ["gavel/sha.roundWords"], plainKeys := false, apart := false, laid := [("gavel/sha.roundWords", laid_gavel_sha_roundWords)] }
def CommitOfSaid : Prop := commitOfRow.holds Tryd.pinned (OpenSpec.ofChange commitOfSpec)

/-- ITS FALSE NEIGHBOUR: 'it returns false'. Refute it at one input. -/
def commitOfWrong : ChangeSpec := { name := "commitOf", fn := fun _ => fun
  | [d1, d2, d3, d4, d5, d6, d7] => { results := [.lit (.bool false)], args := [d1, d2, d3, d4, d5, d6, d7] }
  | _ => none }
def CommitOfWrongFalsely : Prop := commitOfRow.holds Tryd.pinned (OpenSpec.ofChange commitOfWrong)

/-- 'gavellaw04.CommitRight': WHATEVER THE INPUT: true; the input reads as it did. -/
def commitRightSpec : ChangeSpec := { name := "commitRight", fn := fun _ => fun
  | [d1, d2, d3, d4, d5, d6] => { results := [.lit (.bool true)], args := [d1, d2, d3, d4, d5, d6] }
  | _ => none }
def commitRightRow : OpenClaim := { program := "ytbajkdlemgnmkaadoor", sum := "126372ec4e5943d482e6cd6ce07de306cf4e1b65f19979190a93ddc6d38ade73", func := "gavel/gavellaw04.CommitRight", spec := "commitRight", named := ["gavel/sha.roundWords"], plainKeys := false, apart := false, laid := [("gavel/sha.roundWords", laid_gavel_sha_roundWords)] }
def CommitRightSaid : Prop := commitRightRow.holds Tryd.pinned (OpenSpec.ofChange commitRightSpec)

/-- ITS FALSE NEIGHBOUR: 'it returns false'. Refute it at one input. -/
def commitRightWrong : ChangeSpec := { name := "commitRight", fn := fun _ => fun
  | [d1, d2, d3, d4, d5, d6] => { results := [.lit (.bool false)], args := [d1, d2, d3, d4, d5, d6] }
  | _ => none }
def CommitRightWrongFalsely : Prop := commitRightRow.holds Tryd.pinned (OpenSpec.ofChange commitRightWrong)

/-- 'gavellaw04.CommitUnlike': WHATEVER THE INPUT: true; the input reads as it did. -/
def commitUnlikeSpec : ChangeSpec := { name := "commitUnlike", fn := fun _ => fun
  | [d1, d2, d3, d4, d5, d6] => { results := [.lit (.bool true)], args := [d1, d2, d3, d4, d5, d6] }
  | _ => none }
def commitUnlikeRow : OpenClaim := { program := "ytbajkdlemgnmkaadoor", sum := "126372ec4e5943d482e6cd6ce07de306cf4e1b65f19979190a93ddc6d38ade73", func := "gavel/gavellaw04.CommitUnlike", spec := "commitUnlike", named := ["gavel/sha.roundWords"], plainKeys := false, apart := false, laid := [("gavel/sha.roundWords", laid_gavel_sha_roundWords)] }
def CommitUnlikeSaid : Prop := commitUnlikeRow.holds Tryd.pinned (OpenSpec.ofChange commitUnlikeSpec)

/-- ITS FALSE NEIGHBOUR: 'it returns false'. Refute it at one input. -/
def commitUnlikeWrong : ChangeSpec := { name := "commitUnlike", fn := fun _ => fun
  | [d1, d2, d3, d4, d5, d6] => { results := [.lit (.bool false)], args := [d1, d2, d3, d4, d5, d6] }
  | _ => none }
def CommitUnlikeWrongFalsely : Prop := commitUnlikeRow.holds Tryd.pinned (OpenSpec.ofChange commitUnlikeWrong)

/- THE SECOND FORM. 'bulk': how many values and letters a reading holds, each counted each time it is reached (what is shared counts as often as it is met; a slice's spare places count too). A statement '..UptoSaid' is the law's where the arguments, and the package variables that the reading takes, are together of bulk at most 1048576: NARROWER than '..Said'. Prove '..Said' where nothing that the law and all that it calls make is longer than what came in: it says more and counts as full. Else prove '..UptoSaid'. A law counts once. -/
mutual
def uptoBulk {H : Type} : DataW H → Nat
  | .lit (.string bytes) => bytes.length + 1
  | .lit _ => 1
  | .nil => 1
  | .ptr d => uptoBulk d + 1
  | .slice elems spare => uptoBulkAll elems + uptoBulkAll spare + 1
  | .agg parts => uptoBulkAll parts + 1
  | .iface _ d => uptoBulk d + 1
  | .map entries => uptoBulkEntries entries + 1
  | .held _ => 1
def uptoBulkAll {H : Type} : List (DataW H) → Nat
  | [] => 0
  | d :: r => uptoBulk d + uptoBulkAll r
def uptoBulkEntries {H : Type} : List (Lit × DataW H) → Nat
  | [] => 0
  | x :: r => uptoBulkEntry x + uptoBulkEntries r
def uptoBulkEntry {H : Type} : Lit × DataW H → Nat
  | (.string bytes, d) => bytes.length + uptoBulk d + 1
  | (_, d) => uptoBulk d + 1
 end
def uptoSmall : (H : Type) → List (DataW H) → Bool := fun _ ds => decide (uptoBulkAll ds ≤ 1048576)
def OpenSpec.upto (s : _root_.Go.ChangeSpec) : _root_.Go.OpenSpec := { _root_.Go.OpenSpec.ofChange s with cond := some uptoSmall }

/-- 'gavellaw02.ShaRows', WHERE WHAT IT READS IS OF BULK AT MOST 1048576: true; the input reads as it did. -/
def shaRowsUptoRow : OpenClaim := { program := "ytbajkdlemgnmkaadoor", sum := "126372ec4e5943d482e6cd6ce07de306cf4e1b65f19979190a93ddc6d38ade73", func := "gavel/gavellaw02.ShaRows", spec := "shaRows", named := ["gavel/sha.roundWords"], plainKeys := false, apart := false, laid := [("gavel/sha.roundWords", laid_gavel_sha_roundWords)], narrowed := true }
def ShaRowsUptoSaid : Prop := shaRowsUptoRow.holds Tryd.pinned (OpenSpec.upto shaRowsSpec)

/-- 'gavellaw02.ShaOrder', WHERE WHAT IT READS IS OF BULK AT MOST 1048576: true; the input reads as it did. -/
def shaOrderUptoRow : OpenClaim := { program := "ytbajkdlemgnmkaadoor", sum := "126372ec4e5943d482e6cd6ce07de306cf4e1b65f19979190a93ddc6d38ade73", func := "gavel/gavellaw02.ShaOrder", spec := "shaOrder", inPlace := ["internal/bytealg.Compare"], named := ["gavel/sha.roundWords"], plainKeys := false, apart := false, laid := [("gavel/sha.roundWords", laid_gavel_sha_roundWords)], narrowed := true }
def ShaOrderUptoSaid : Prop := shaOrderUptoRow.holds Tryd.pinned (OpenSpec.upto shaOrderSpec)

/-- 'gavellaw02.ShaSets', WHERE WHAT IT READS IS OF BULK AT MOST 1048576: true; the input reads as it did. -/
def shaSetsUptoRow : OpenClaim := { program := "ytbajkdlemgnmkaadoor", sum := "126372ec4e5943d482e6cd6ce07de306cf4e1b65f19979190a93ddc6d38ade73", func := "gavel/gavellaw02.ShaSets", spec := "shaSets", named := ["gavel/sha.roundWords"], plainKeys := false, apart := false, laid := [("gavel/sha.roundWords", laid_gavel_sha_roundWords)], narrowed := true }
def ShaSetsUptoSaid : Prop := shaSetsUptoRow.holds Tryd.pinned (OpenSpec.upto shaSetsSpec)

/-- 'gavellaw02.ShaBlocks', WHERE WHAT IT READS IS OF BULK AT MOST 1048576: true; the input reads as it did. -/
def shaBlocksUptoRow : OpenClaim := { program := "ytbajkdlemgnmkaadoor", sum := "126372ec4e5943d482e6cd6ce07de306cf4e1b65f19979190a93ddc6d38ade73", func := "gavel/gavellaw02.ShaBlocks", spec := "shaBlocks", named := ["gavel/sha.roundWords"], plainKeys := false, apart := false, laid := [("gavel/sha.roundWords", laid_gavel_sha_roundWords)], narrowed := true }
def ShaBlocksUptoSaid : Prop := shaBlocksUptoRow.holds Tryd.pinned (OpenSpec.upto shaBlocksSpec)

/-- 'gavellaw02.ShaApart', WHERE WHAT IT READS IS OF BULK AT MOST 1048576: true; the input reads as it did. -/
def shaApartUptoRow : OpenClaim := { program := "ytbajkdlemgnmkaadoor", sum := "126372ec4e5943d482e6cd6ce07de306cf4e1b65f19979190a93ddc6d38ade73", func := "gavel/gavellaw02.ShaApart", spec := "shaApart", named := ["gavel/sha.roundWords"], plainKeys := false, apart := false, laid := [("gavel/sha.roundWords", laid_gavel_sha_roundWords)], narrowed := true }
def ShaApartUptoSaid : Prop := shaApartUptoRow.holds Tryd.pinned (OpenSpec.upto shaApartSpec)

/-- 'gavellaw04.CommitLimits', WHERE WHAT IT READS IS OF BULK AT MOST 1048576: true; the input reads as it did. -/
def commitLimitsUptoRow : OpenClaim := { program := "ytbajkdlemgnmkaadoor", sum := "126372ec4e5943d482e6cd6ce07de306cf4e1b65f19979190a93ddc6d38ade73", func := "gavel/gavellaw04.CommitLimits", spec := "commitLimits", named := ["gavel/sha.roundWords"], plainKeys := false, apart := false, laid := [("gavel/sha.roundWords", laid_gavel_sha_roundWords)], narrowed := true }
def CommitLimitsUptoSaid : Prop := commitLimitsUptoRow.holds Tryd.pinned (OpenSpec.upto commitLimitsSpec)

/-- 'gavellaw04.CommitAgain', WHERE WHAT IT READS IS OF BULK AT MOST 1048576: true; the input reads as it did. -/
def commitAgainUptoRow : OpenClaim := { program := "ytbajkdlemgnmkaadoor", sum := "126372ec4e5943d482e6cd6ce07de306cf4e1b65f19979190a93ddc6d38ade73", func := "gavel/gavellaw04.CommitAgain", spec := "commitAgain", named := ["gavel/sha.roundWords"], plainKeys := false, apart := false, laid := [("gavel/sha.roundWords", laid_gavel_sha_roundWords)], narrowed := true }
def CommitAgainUptoSaid : Prop := commitAgainUptoRow.holds Tryd.pinned (OpenSpec.upto commitAgainSpec)

/-- 'gavellaw04.CommitOf', WHERE WHAT IT READS IS OF BULK AT MOST 1048576: true; the input reads as it did. -/
def commitOfUptoRow : OpenClaim := { program := "ytbajkdlemgnmkaadoor", sum := "126372ec4e5943d482e6cd6ce07de306cf4e1b65f19979190a93ddc6d38ade73", func := "gavel/gavellaw04.CommitOf", spec := "commitOf", named := ["gavel/sha.roundWords"], plainKeys := false, apart := false, laid := [("gavel/sha.roundWords", laid_gavel_sha_roundWords)], narrowed := true }
def CommitOfUptoSaid : Prop := commitOfUptoRow.holds Tryd.pinned (OpenSpec.upto commitOfSpec)

/-- 'gavellaw04.CommitRight', WHERE WHAT IT READS IS OF BULK AT MOST 1048576: true; the input reads as it did. -/
def commitRightUptoRow : OpenClaim := { program := "ytbajkdlemgnmkaadoor", sum := "126372ec4e5943d482e6cd6ce07de306cf4e1b65f19979190a93ddc6d38ade73", func := "gavel/gavellaw04.CommitRight", spec := "commitRight", named := ["gavel/sha.roundWords"], plainKeys := false, apart := false, laid := [("gavel/sha.roundWords", laid_gavel_sha_roundWords)], narrowed := true }
def CommitRightUptoSaid : Prop := commitRightUptoRow.holds Tryd.pinned (OpenSpec.upto commitRightSpec)

/-- 'gavellaw04.CommitUnlike', WHERE WHAT IT READS IS OF BULK AT MOST 1048576: true; the input reads as it did. -/
def commitUnlikeUptoRow : OpenClaim := { program := "ytbajkdlemgnmkaadoor", sum := "126372ec4e5943d482e6cd6ce07de306cf4e1b65f19979190a93ddc6d38ade73", func := "gavel/gavellaw04.CommitUnlike", spec := "commitUnlike", named := ["gavel/sha.roundWords"], plainKeys := false, apart := false, laid := [("gavel/sha.roundWords", laid_gavel_sha_roundWords)], narrowed := true }
def CommitUnlikeUptoSaid : Prop := commitUnlikeUptoRow.holds Tryd.pinned (OpenSpec.upto commitUnlikeSpec)

end Rows
end Go.Proofs.YtbajkdlemgnmkaaDoor
