/-
  DERIVED. GIVEN WITH THE SEED: THE CARDS: each row of YtdgbcdmooklciaaDoorRows.lean that lists a variable, with what it lists TIED to the program's text (the seventh form; the later family's looks); each row that meets fmt, with fmt's text TOLD by the authors' own Lean function (tested against real Go, not proved from fmt's source: count such statements apart). THE CARD IS WHAT COUNTS. Prove the row's statement (the work); the ties are given (YtdgbcdmooklciaaDoorTie.lean); close each card by the builder's one call (the guide's Derived/Test/ToyasCard.lean, 'card_holds'). Laid BY PROGRAM, IN A SANDBOX (cutbox-door.mjs). By AI agents, Wed Nov 11 2026. No macro, syntax, notation, axiom, sorry.
-/
import Derived.Test.YtdgbcdmooklciaaDoorRows
import GoSem.ClaimSeven
namespace Go.Proofs.YtdgbcdmooklciaaDoor
namespace Rows

/-- THE TIED CARD OF 'gavellaw02.ShaRows'. -/
def shaRowsCard : Claim7 := { stood := { row := shaRowsRow, standIns := [], harness := (true, "12d199f77319132ae4fe72e13bef867955ca7c563e49d77b7d297c176cddf180"), looks := false }, kinds := [], alts := [], laidByText := true, laidKinds := [.data], laidTests := true, laidLooks := .later }
def ShaRowsCardSaid : Prop := Claim7.holds Tryd.pinned (.plain (OpenSpec.ofChange shaRowsSpec)) shaRowsCard

/-- THE TIED CARD OF 'gavellaw05.WireHashes'. -/
def wireHashesCard : Claim7 := { stood := { row := wireHashesRow, standIns := [], harness := (true, "12d199f77319132ae4fe72e13bef867955ca7c563e49d77b7d297c176cddf180"), looks := false }, kinds := [], alts := [], laidByText := true, laidKinds := [.data], laidTests := true, laidLooks := .later }
def WireHashesCardSaid : Prop := Claim7.holds Tryd.pinned (.plain (OpenSpec.ofChange wireHashesSpec)) wireHashesCard

/-- THE TIED CARD OF 'gavellaw05.WirePuts'. -/
def wirePutsCard : Claim7 := { stood := { row := wirePutsRow, standIns := [], harness := (true, "12d199f77319132ae4fe72e13bef867955ca7c563e49d77b7d297c176cddf180"), looks := false }, kinds := [], alts := [], laidByText := true, laidKinds := [.data], laidTests := true, laidLooks := .later }
def WirePutsCardSaid : Prop := Claim7.holds Tryd.pinned (.plain (OpenSpec.ofChange wirePutsSpec)) wirePutsCard

/-- THE TIED CARD OF 'gavellaw05.WireTexts'. -/
def wireTextsCard : Claim7 := { stood := { row := wireTextsRow, standIns := [], harness := (true, "12d199f77319132ae4fe72e13bef867955ca7c563e49d77b7d297c176cddf180"), looks := false }, kinds := [], alts := [], laidByText := true, laidKinds := [.data], laidTests := true, laidLooks := .later }
def WireTextsCardSaid : Prop := Claim7.holds Tryd.pinned (.plain (OpenSpec.ofChange wireTextsSpec)) wireTextsCard

/-- THE TIED CARD OF 'gavellaw05.WireUnsigned'. -/
def wireUnsignedCard : Claim7 := { stood := { row := wireUnsignedRow, standIns := [], harness := (true, "12d199f77319132ae4fe72e13bef867955ca7c563e49d77b7d297c176cddf180"), looks := false }, kinds := [], alts := [], laidByText := true, laidKinds := [.data], laidTests := true, laidLooks := .later }
def WireUnsignedCardSaid : Prop := Claim7.holds Tryd.pinned (.plain (OpenSpec.ofChange wireUnsignedSpec)) wireUnsignedCard

/-- THE SECOND FORM's CARD OF 'gavellaw02.ShaRows'. -/
def shaRowsUptoCard : Claim7 := { stood := { row := shaRowsUptoRow, standIns := [], harness := (true, "12d199f77319132ae4fe72e13bef867955ca7c563e49d77b7d297c176cddf180"), looks := false }, kinds := [], alts := [], laidByText := true, laidKinds := [.data], laidTests := true, laidLooks := .later }
def ShaRowsUptoCardSaid : Prop := Claim7.holds Tryd.pinned (.plain (OpenSpec.upto shaRowsSpec)) shaRowsUptoCard

/-- THE SECOND FORM's CARD OF 'gavellaw05.WireHashes'. -/
def wireHashesUptoCard : Claim7 := { stood := { row := wireHashesUptoRow, standIns := [], harness := (true, "12d199f77319132ae4fe72e13bef867955ca7c563e49d77b7d297c176cddf180"), looks := false }, kinds := [], alts := [], laidByText := true, laidKinds := [.data], laidTests := true, laidLooks := .later }
def WireHashesUptoCardSaid : Prop := Claim7.holds Tryd.pinned (.plain (OpenSpec.upto wireHashesSpec)) wireHashesUptoCard

/-- THE SECOND FORM's CARD OF 'gavellaw05.WirePuts'. -/
def wirePutsUptoCard : Claim7 := { stood := { row := wirePutsUptoRow, standIns := [], harness := (true, "12d199f77319132ae4fe72e13bef867955ca7c563e49d77b7d297c176cddf180"), looks := false }, kinds := [], alts := [], laidByText := true, laidKinds := [.data], laidTests := true, laidLooks := .later }
def WirePutsUptoCardSaid : Prop := Claim7.holds Tryd.pinned (.plain (OpenSpec.upto wirePutsSpec)) wirePutsUptoCard

/-- THE SECOND FORM's CARD OF 'gavellaw05.WireTexts'. -/
def wireTextsUptoCard : Claim7 := { stood := { row := wireTextsUptoRow, standIns := [], harness := (true, "12d199f77319132ae4fe72e13bef867955ca7c563e49d77b7d297c176cddf180"), looks := false }, kinds := [], alts := [], laidByText := true, laidKinds := [.data], laidTests := true, laidLooks := .later }
def WireTextsUptoCardSaid : Prop := Claim7.holds Tryd.pinned (.plain (OpenSpec.upto wireTextsSpec)) wireTextsUptoCard

/-- THE SECOND FORM's CARD OF 'gavellaw05.WireUnsigned'. -/
def wireUnsignedUptoCard : Claim7 := { stood := { row := wireUnsignedUptoRow, standIns := [], harness := (true, "12d199f77319132ae4fe72e13bef867955ca7c563e49d77b7d297c176cddf180"), looks := false }, kinds := [], alts := [], laidByText := true, laidKinds := [.data], laidTests := true, laidLooks := .later }
def WireUnsignedUptoCardSaid : Prop := Claim7.holds Tryd.pinned (.plain (OpenSpec.upto wireUnsignedSpec)) wireUnsignedUptoCard
end Rows
end Go.Proofs.YtdgbcdmooklciaaDoor
