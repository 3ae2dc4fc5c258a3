/-
  DERIVED. GIVEN WITH THE SEED: THE CARDS: each row of YtbajkdlemgnmkaaDoorRows.lean that lists a variable, with what it lists TIED to the program's text (the seventh form; the later family's looks); each row that meets fmt, with fmt's text TOLD by the authors' own Lean function (tested against real Go, not proved from fmt's source: count such statements apart). THE CARD IS WHAT COUNTS. Prove the row's statement (the work); the ties are given (YtbajkdlemgnmkaaDoorTie.lean); close each card by the builder's one call (the guide's Derived/Test/ToyasCard.lean, 'card_holds'). Laid BY PROGRAM, IN A SANDBOX (cutbox-door.mjs). By AI agents, Wed Nov 11 2026. No macro, syntax, notation, axiom, sorry.
-/
import Derived.Test.YtbajkdlemgnmkaaDoorRows
import GoSem.ClaimSeven
namespace Go.Proofs.YtbajkdlemgnmkaaDoor
namespace Rows

/-- THE TIED CARD OF 'gavellaw02.ShaRows'. -/
def shaRowsCard : Claim7 := { stood := { row := shaRowsRow, standIns := [], harness := (true, "ea1b64ecf29ed8546e53dd688d7eabad949150b1001bcae0d97f923bd8a8d534"), looks := false }, kinds := [], alts := [], laidByText := true, laidKinds := [.data], laidTests := true, laidLooks := .later }
def ShaRowsCardSaid : Prop := Claim7.holds Tryd.pinned (.plain (OpenSpec.ofChange shaRowsSpec)) shaRowsCard

/-- THE TIED CARD OF 'gavellaw02.ShaOrder'. -/
def shaOrderCard : Claim7 := { stood := { row := shaOrderRow, standIns := [], harness := (true, "ea1b64ecf29ed8546e53dd688d7eabad949150b1001bcae0d97f923bd8a8d534"), looks := false }, kinds := [], alts := [], laidByText := true, laidKinds := [.data], laidTests := true, laidLooks := .later }
def ShaOrderCardSaid : Prop := Claim7.holds Tryd.pinned (.plain (OpenSpec.ofChange shaOrderSpec)) shaOrderCard

/-- THE TIED CARD OF 'gavellaw02.ShaSets'. -/
def shaSetsCard : Claim7 := { stood := { row := shaSetsRow, standIns := [], harness := (true, "ea1b64ecf29ed8546e53dd688d7eabad949150b1001bcae0d97f923bd8a8d534"), looks := false }, kinds := [], alts := [], laidByText := true, laidKinds := [.data], laidTests := true, laidLooks := .later }
def ShaSetsCardSaid : Prop := Claim7.holds Tryd.pinned (.plain (OpenSpec.ofChange shaSetsSpec)) shaSetsCard

/-- THE TIED CARD OF 'gavellaw02.ShaBlocks'. -/
def shaBlocksCard : Claim7 := { stood := { row := shaBlocksRow, standIns := [], harness := (true, "ea1b64ecf29ed8546e53dd688d7eabad949150b1001bcae0d97f923bd8a8d534"), looks := false }, kinds := [], alts := [], laidByText := true, laidKinds := [.data], laidTests := true, laidLooks := .later }
def ShaBlocksCardSaid : Prop := Claim7.holds Tryd.pinned (.plain (OpenSpec.ofChange shaBlocksSpec)) shaBlocksCard

/-- THE TIED CARD OF 'gavellaw02.ShaApart'. -/
def shaApartCard : Claim7 := { stood := { row := shaApartRow, standIns := [], harness := (true, "ea1b64ecf29ed8546e53dd688d7eabad949150b1001bcae0d97f923bd8a8d534"), looks := false }, kinds := [], alts := [], laidByText := true, laidKinds := [.data], laidTests := true, laidLooks := .later }
def ShaApartCardSaid : Prop := Claim7.holds Tryd.pinned (.plain (OpenSpec.ofChange shaApartSpec)) shaApartCard

/-- THE TIED CARD OF 'gavellaw04.CommitLimits'. -/
def commitLimitsCard : Claim7 := { stood := { row := commitLimitsRow, standIns := [], harness := (true, "ea1b64ecf29ed8546e53dd688d7eabad949150b1001bcae0d97f923bd8a8d534"), looks := false }, kinds := [], alts := [], laidByText := true, laidKinds := [.data], laidTests := true, laidLooks := .later }
def CommitLimitsCardSaid : Prop := Claim7.holds Tryd.pinned (.plain (OpenSpec.ofChange commitLimitsSpec)) commitLimitsCard

/-- THE TIED CARD OF 'gavellaw04.CommitAgain'. -/
def commitAgainCard : Claim7 := { stood := { row := commitAgainRow, standIns := [], harness := (true, "ea1b64ecf29ed8546e53dd688d7eabad949150b1001bcae0d97f923bd8a8d534"), looks := false }, kinds := [], alts := [], laidByText := true, laidKinds := [.data], laidTests := true, laidLooks := .later }
def CommitAgainCardSaid : Prop := Claim7.holds Tryd.pinned (.plain (OpenSpec.ofChange commitAgainSpec)) commitAgainCard

/-- THE TIED CARD OF 'gavellaw04.CommitOf'. -/
def commitOfCard : Claim7 := { stood := { row := commitOfRow, standIns := [], harness := (true, "ea1b64ecf29ed8546e53dd688d7eabad949150b1001bcae0d97f923bd8a8d534"), looks := false }, kinds := [], alts := [], laidByText := true, laidKinds := [.data], laidTests := true, laidLooks := .later }
def CommitOfCardSaid : Prop := Claim7.holds Tryd.pinned (.plain (OpenSpec.ofChange commitOfSpec)) commitOfCard

/-- THE TIED CARD OF 'gavellaw04.CommitRight'. -/
def commitRightCard : Claim7 := { stood := { row := commitRightRow, standIns := [], harness := (true, "ea1b64ecf29ed8546e53dd688d7eabad949150b1001bcae0d97f923bd8a8d534"), looks := false }, kinds := [], alts := [], laidByText := true, laidKinds := [.data], laidTests := true, laidLooks := .later }
def CommitRightCardSaid : Prop := Claim7.holds Tryd.pinned (.plain (OpenSpec.ofChange commitRightSpec)) commitRightCard

/-- THE TIED CARD OF 'gavellaw04.CommitUnlike'. -/
def commitUnlikeCard : Claim7 := { stood := { row := commitUnlikeRow, standIns := [], harness := (true, "ea1b64ecf29ed8546e53dd688d7eabad949150b1001bcae0d97f923bd8a8d534"), looks := false }, kinds := [], alts := [], laidByText := true, laidKinds := [.data], laidTests := true, laidLooks := .later }
def CommitUnlikeCardSaid : Prop := Claim7.holds Tryd.pinned (.plain (OpenSpec.ofChange commitUnlikeSpec)) commitUnlikeCard

/-- THE SECOND FORM's CARD OF 'gavellaw02.ShaRows'. -/
def shaRowsUptoCard : Claim7 := { stood := { row := shaRowsUptoRow, standIns := [], harness := (true, "ea1b64ecf29ed8546e53dd688d7eabad949150b1001bcae0d97f923bd8a8d534"), looks := false }, kinds := [], alts := [], laidByText := true, laidKinds := [.data], laidTests := true, laidLooks := .later }
def ShaRowsUptoCardSaid : Prop := Claim7.holds Tryd.pinned (.plain (OpenSpec.upto shaRowsSpec)) shaRowsUptoCard

/-- THE SECOND FORM's CARD OF 'gavellaw02.ShaOrder'. -/
def shaOrderUptoCard : Claim7 := { stood := { row := shaOrderUptoRow, standIns := [], harness := (true, "ea1b64ecf29ed8546e53dd688d7eabad949150b1001bcae0d97f923bd8a8d534"), looks := false }, kinds := [], alts := [], laidByText := true, laidKinds := [.data], laidTests := true, laidLooks := .later }
def ShaOrderUptoCardSaid : Prop := Claim7.holds Tryd.pinned (.plain (OpenSpec.upto shaOrderSpec)) shaOrderUptoCard

/-- THE SECOND FORM's CARD OF 'gavellaw02.ShaSets'. -/
def shaSetsUptoCard : Claim7 := { stood := { row := shaSetsUptoRow, standIns := [], harness := (true, "ea1b64ecf29ed8546e53dd688d7eabad949150b1001bcae0d97f923bd8a8d534"), looks := false }, kinds := [], alts := [], laidByText := true, laidKinds := [.data], laidTests := true, laidLooks := .later }
def ShaSetsUptoCardSaid : Prop := Claim7.holds Tryd.pinned (.plain (OpenSpec.upto shaSetsSpec)) shaSetsUptoCard

/-- THE SECOND FORM's CARD OF 'gavellaw02.ShaBlocks'. -/
def shaBlocksUptoCard : Claim7 := { stood := { row := shaBlocksUptoRow, standIns := [], harness := (true, "ea1b64ecf29ed8546e53dd688d7eabad949150b1001bcae0d97f923bd8a8d534"), looks := false }, kinds := [], alts := [], laidByText := true, laidKinds := [.data], laidTests := true, laidLooks := .later }
def ShaBlocksUptoCardSaid : Prop := Claim7.holds Tryd.pinned (.plain (OpenSpec.upto shaBlocksSpec)) shaBlocksUptoCard

/-- THE SECOND FORM's CARD OF 'gavellaw02.ShaApart'. -/
def shaApartUptoCard : Claim7 := { stood := { row := shaApartUptoRow, standIns := [], harness := (true, "ea1b64ecf29ed8546e53dd688d7eabad949150b1001bcae0d97f923bd8a8d534"), looks := false }, kinds := [], alts := [], laidByText := true, laidKinds := [.data], laidTests := true, laidLooks := .later }
def ShaApartUptoCardSaid : Prop := Claim7.holds Tryd.pinned (.plain (OpenSpec.upto shaApartSpec)) shaApartUptoCard

/-- THE SECOND FORM's CARD OF 'gavellaw04.CommitLimits'. -/
def commitLimitsUptoCard : Claim7 := { stood := { row := commitLimitsUptoRow, standIns := [], harness := (true, "ea1b64ecf29ed8546e53dd688d7eabad949150b1001bcae0d97f923bd8a8d534"), looks := false }, kinds := [], alts := [], laidByText := true, laidKinds := [.data], laidTests := true, laidLooks := .later }
def CommitLimitsUptoCardSaid : Prop := Claim7.holds Tryd.pinned (.plain (OpenSpec.upto commitLimitsSpec)) commitLimitsUptoCard

/-- THE SECOND FORM's CARD OF 'gavellaw04.CommitAgain'. -/
def commitAgainUptoCard : Claim7 := { stood := { row := commitAgainUptoRow, standIns := [], harness := (true, "ea1b64ecf29ed8546e53dd688d7eabad949150b1001bcae0d97f923bd8a8d534"), looks := false }, kinds := [], alts := [], laidByText := true, laidKinds := [.data], laidTests := true, laidLooks := .later }
def CommitAgainUptoCardSaid : Prop := Claim7.holds Tryd.pinned (.plain (OpenSpec.upto commitAgainSpec)) commitAgainUptoCard

/-- THE SECOND FORM's CARD OF 'gavellaw04.CommitOf'. -/
def commitOfUptoCard : Claim7 := { stood := { row := commitOfUptoRow, standIns := [], harness := (true, "ea1b64ecf29ed8546e53dd688d7eabad949150b1001bcae0d97f923bd8a8d534"), looks := false }, kinds := [], alts := [], laidByText := true, laidKinds := [.data], laidTests := true, laidLooks := .later }
def CommitOfUptoCardSaid : Prop := Claim7.holds Tryd.pinned (.plain (OpenSpec.upto commitOfSpec)) commitOfUptoCard

/-- THE SECOND FORM's CARD OF 'gavellaw04.CommitRight'. -/
def commitRightUptoCard : Claim7 := { stood := { row := commitRightUptoRow, standIns := [], harness := (true, "ea1b64ecf29ed8546e53dd688d7eabad949150b1001bcae0d97f923bd8a8d534"), looks := false }, kinds := [], alts := [], laidByText := true, laidKinds := [.data], laidTests := true, laidLooks := .later }
def CommitRightUptoCardSaid : Prop := Claim7.holds Tryd.pinned (.plain (OpenSpec.upto commitRightSpec)) commitRightUptoCard

/-- THE SECOND FORM's CARD OF 'gavellaw04.CommitUnlike'. -/
def commitUnlikeUptoCard : Claim7 := { stood := { row := commitUnlikeUptoRow, standIns := [], harness := (true, "ea1b64ecf29ed8546e53dd688d7eabad949150b1001bcae0d97f923bd8a8d534"), looks := false }, kinds := [], alts := [], laidByText := true, laidKinds := [.data], laidTests := true, laidLooks := .later }
def CommitUnlikeUptoCardSaid : Prop := Claim7.holds Tryd.pinned (.plain (OpenSpec.upto commitUnlikeSpec)) commitUnlikeUptoCard
end Rows
end Go.Proofs.YtbajkdlemgnmkaaDoor
