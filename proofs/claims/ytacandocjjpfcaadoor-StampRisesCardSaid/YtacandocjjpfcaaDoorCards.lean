/-
  DERIVED. GIVEN WITH THE SEED: THE CARDS: each row of YtacandocjjpfcaaDoorRows.lean that lists a variable, with what it lists TIED to the program's text (the seventh form; the later family's looks); each row that meets fmt, with fmt's text TOLD by the authors' own Lean function (tested against real Go, not proved from fmt's source: count such statements apart). THE CARD IS WHAT COUNTS. Prove the row's statement (the work); the ties are given (YtacandocjjpfcaaDoorTie.lean); close each card by the builder's one call (the guide's Derived/Test/ToyasCard.lean, 'card_holds'). Laid BY PROGRAM, IN A SANDBOX (cutbox-door.mjs). By AI agents, Wed Nov 11 2026. No macro, syntax, notation, axiom, sorry.
-/
import Derived.Test.YtacandocjjpfcaaDoorRows
import GoSem.ClaimSeven
namespace Go.Proofs.YtacandocjjpfcaaDoor
namespace Rows

/-- THE TIED CARD OF 'gavellaw09.StampOrder'. -/
def stampOrderCard : Claim7 := { stood := { row := stampOrderRow, standIns := [], harness := (true, "c3e1992f0deedb747190c68f556b718a14160fb6380928df00bf88dc3de43816"), looks := true }, kinds := [], alts := [], laidByText := true, laidKinds := [.data], laidTests := true, laidLooks := .later }
def StampOrderCardSaid : Prop := Claim7.holds Tryd.pinned (.plain (OpenSpec.ofChange stampOrderSpec)) stampOrderCard

/-- THE TIED CARD OF 'gavellaw09.StampEnd'. -/
def stampEndCard : Claim7 := { stood := { row := stampEndRow, standIns := [], harness := (true, "c3e1992f0deedb747190c68f556b718a14160fb6380928df00bf88dc3de43816"), looks := true }, kinds := [], alts := [], laidByText := true, laidKinds := [.data], laidTests := true, laidLooks := .later }
def StampEndCardSaid : Prop := Claim7.holds Tryd.pinned (.plain (OpenSpec.ofChange stampEndSpec)) stampEndCard

/-- THE TIED CARD OF 'gavellaw09.StampPlays'. -/
def stampPlaysCard : Claim7 := { stood := { row := stampPlaysRow, standIns := [], harness := (true, "c3e1992f0deedb747190c68f556b718a14160fb6380928df00bf88dc3de43816"), looks := true }, kinds := [], alts := [], laidByText := true, laidKinds := [.data], laidTests := true, laidLooks := .later }
def StampPlaysCardSaid : Prop := Claim7.holds Tryd.pinned (.plain (OpenSpec.ofChange stampPlaysSpec)) stampPlaysCard

/-- THE TIED CARD OF 'gavellaw09.StampRises'. -/
def stampRisesCard : Claim7 := { stood := { row := stampRisesRow, standIns := [], harness := (true, "c3e1992f0deedb747190c68f556b718a14160fb6380928df00bf88dc3de43816"), looks := true }, kinds := [], alts := [], laidByText := true, laidKinds := [.data], laidTests := true, laidLooks := .later }
def StampRisesCardSaid : Prop := Claim7.holds Tryd.pinned (.plain (OpenSpec.ofChange stampRisesSpec)) stampRisesCard

/-- THE TIED CARD OF 'gavellaw09.StampKeeps'. -/
def stampKeepsCard : Claim7 := { stood := { row := stampKeepsRow, standIns := [], harness := (true, "c3e1992f0deedb747190c68f556b718a14160fb6380928df00bf88dc3de43816"), looks := true }, kinds := [], alts := [], laidByText := true, laidKinds := [.data], laidTests := true, laidLooks := .later }
def StampKeepsCardSaid : Prop := Claim7.holds Tryd.pinned (.plain (OpenSpec.ofChange stampKeepsSpec)) stampKeepsCard

/-- THE SECOND FORM's CARD OF 'gavellaw09.StampOrder'. -/
def stampOrderUptoCard : Claim7 := { stood := { row := stampOrderUptoRow, standIns := [], harness := (true, "c3e1992f0deedb747190c68f556b718a14160fb6380928df00bf88dc3de43816"), looks := true }, kinds := [], alts := [], laidByText := true, laidKinds := [.data], laidTests := true, laidLooks := .later }
def StampOrderUptoCardSaid : Prop := Claim7.holds Tryd.pinned (.plain (OpenSpec.upto stampOrderSpec)) stampOrderUptoCard

/-- THE SECOND FORM's CARD OF 'gavellaw09.StampEnd'. -/
def stampEndUptoCard : Claim7 := { stood := { row := stampEndUptoRow, standIns := [], harness := (true, "c3e1992f0deedb747190c68f556b718a14160fb6380928df00bf88dc3de43816"), looks := true }, kinds := [], alts := [], laidByText := true, laidKinds := [.data], laidTests := true, laidLooks := .later }
def StampEndUptoCardSaid : Prop := Claim7.holds Tryd.pinned (.plain (OpenSpec.upto stampEndSpec)) stampEndUptoCard

/-- THE SECOND FORM's CARD OF 'gavellaw09.StampPlays'. -/
def stampPlaysUptoCard : Claim7 := { stood := { row := stampPlaysUptoRow, standIns := [], harness := (true, "c3e1992f0deedb747190c68f556b718a14160fb6380928df00bf88dc3de43816"), looks := true }, kinds := [], alts := [], laidByText := true, laidKinds := [.data], laidTests := true, laidLooks := .later }
def StampPlaysUptoCardSaid : Prop := Claim7.holds Tryd.pinned (.plain (OpenSpec.upto stampPlaysSpec)) stampPlaysUptoCard

/-- THE SECOND FORM's CARD OF 'gavellaw09.StampRises'. -/
def stampRisesUptoCard : Claim7 := { stood := { row := stampRisesUptoRow, standIns := [], harness := (true, "c3e1992f0deedb747190c68f556b718a14160fb6380928df00bf88dc3de43816"), looks := true }, kinds := [], alts := [], laidByText := true, laidKinds := [.data], laidTests := true, laidLooks := .later }
def StampRisesUptoCardSaid : Prop := Claim7.holds Tryd.pinned (.plain (OpenSpec.upto stampRisesSpec)) stampRisesUptoCard

/-- THE SECOND FORM's CARD OF 'gavellaw09.StampKeeps'. -/
def stampKeepsUptoCard : Claim7 := { stood := { row := stampKeepsUptoRow, standIns := [], harness := (true, "c3e1992f0deedb747190c68f556b718a14160fb6380928df00bf88dc3de43816"), looks := true }, kinds := [], alts := [], laidByText := true, laidKinds := [.data], laidTests := true, laidLooks := .later }
def StampKeepsUptoCardSaid : Prop := Claim7.holds Tryd.pinned (.plain (OpenSpec.upto stampKeepsSpec)) stampKeepsUptoCard
end Rows
end Go.Proofs.YtacandocjjpfcaaDoor
