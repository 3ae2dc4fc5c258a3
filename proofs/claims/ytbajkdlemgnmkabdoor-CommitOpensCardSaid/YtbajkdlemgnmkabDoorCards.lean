/-
  DERIVED. GIVEN WITH THE SEED: THE CARDS: each row of YtbajkdlemgnmkabDoorRows.lean that lists a variable, with what it lists TIED to the program's text (the seventh form; the later family's looks); each row that meets fmt, with fmt's text TOLD by the authors' own Lean function (tested against real Go, not proved from fmt's source: count such statements apart). THE CARD IS WHAT COUNTS. Prove the row's statement (the work); the ties are given (YtbajkdlemgnmkabDoorTie.lean); close each card by the builder's one call (the guide's Derived/Test/ToyasCard.lean, 'card_holds'). Laid BY PROGRAM, IN A SANDBOX (cutbox-door.mjs). By AI agents, Wed Nov 11 2026. No macro, syntax, notation, axiom, sorry.
-/
import Derived.Test.YtbajkdlemgnmkabDoorRows
import GoSem.ClaimSeven
namespace Go.Proofs.YtbajkdlemgnmkabDoor
namespace Rows

/-- THE TIED CARD OF 'gavellaw04.CommitOpens'. -/
def commitOpensCard : Claim7 := { stood := { row := commitOpensRow, standIns := [], harness := (true, "6c2dea40324bec0cd2f3833bac17098c2b7040f67dc47a7d7861dafa0ee9cb50"), looks := false }, kinds := [], alts := [], laidByText := true, laidKinds := [.data], laidTests := true, laidLooks := .later }
def CommitOpensCardSaid : Prop := Claim7.holds Tryd.pinned (.plain (OpenSpec.ofChange commitOpensSpec)) commitOpensCard

/-- THE SECOND FORM's CARD OF 'gavellaw04.CommitOpens'. -/
def commitOpensUptoCard : Claim7 := { stood := { row := commitOpensUptoRow, standIns := [], harness := (true, "6c2dea40324bec0cd2f3833bac17098c2b7040f67dc47a7d7861dafa0ee9cb50"), looks := false }, kinds := [], alts := [], laidByText := true, laidKinds := [.data], laidTests := true, laidLooks := .later }
def CommitOpensUptoCardSaid : Prop := Claim7.holds Tryd.pinned (.plain (OpenSpec.upto commitOpensSpec)) commitOpensUptoCard
end Rows
end Go.Proofs.YtbajkdlemgnmkabDoor
