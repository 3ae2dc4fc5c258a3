/-
  DERIVED. GIVEN WITH THE SEED: THE CARDS: each row of YtjpmiigoglcoaaaDoorRows.lean that lists a variable, with what it lists TIED to the program's text (the seventh form; the later family's looks); each row that meets fmt, with fmt's text TOLD by the authors' own Lean function (tested against real Go, not proved from fmt's source: count such statements apart). THE CARD IS WHAT COUNTS. Prove the row's statement (the work); the ties are given (YtjpmiigoglcoaaaDoorTie.lean); close each card by the builder's one call (the guide's Derived/Test/ToyasCard.lean, 'card_holds'). Laid BY PROGRAM, IN A SANDBOX (cutbox-door.mjs). By AI agents, Wed Nov 11 2026. No macro, syntax, notation, axiom, sorry.
-/
import Derived.Test.YtjpmiigoglcoaaaDoorRows
import GoSem.ClaimSeven
namespace Go.Proofs.YtjpmiigoglcoaaaDoor
namespace Rows

/-- THE TIED CARD OF 'gavellaw05.WireHashes'. -/
def wireHashesCard : Claim7 := { stood := { row := wireHashesRow, standIns := [], harness := (true, "a3f77c5425cbc1a09ec86a9985659df53ac555a372abaa476ab41f632fc7a9ba"), looks := false }, kinds := [], alts := [], laidByText := true, laidKinds := [.data], laidTests := true, laidLooks := .later }
def WireHashesCardSaid : Prop := Claim7.holds Tryd.pinned (.plain (OpenSpec.ofChange wireHashesSpec)) wireHashesCard

/-- THE SECOND FORM's CARD OF 'gavellaw05.WireHashes'. -/
def wireHashesUptoCard : Claim7 := { stood := { row := wireHashesUptoRow, standIns := [], harness := (true, "a3f77c5425cbc1a09ec86a9985659df53ac555a372abaa476ab41f632fc7a9ba"), looks := false }, kinds := [], alts := [], laidByText := true, laidKinds := [.data], laidTests := true, laidLooks := .later }
def WireHashesUptoCardSaid : Prop := Claim7.holds Tryd.pinned (.plain (OpenSpec.upto wireHashesSpec)) wireHashesUptoCard
end Rows
end Go.Proofs.YtjpmiigoglcoaaaDoor
