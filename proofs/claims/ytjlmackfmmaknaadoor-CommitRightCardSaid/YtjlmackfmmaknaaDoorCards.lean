/-
  DERIVED. GIVEN WITH THE SEED: THE CARDS: each row of YtjlmackfmmaknaaDoorRows.lean that lists a variable, with what it lists TIED to the program's text (the seventh form; the later family's looks); each row that meets fmt, with fmt's text TOLD by the authors' own Lean function (tested against real Go, not proved from fmt's source: count such statements apart). THE CARD IS WHAT COUNTS. Prove the row's statement (the work); the ties are given (YtjlmackfmmaknaaDoorTie.lean); close each card by the builder's one call (the guide's Derived/Test/ToyasCard.lean, 'card_holds'). Laid BY PROGRAM, IN A SANDBOX (cutbox-door.mjs). By AI agents, Wed Nov 11 2026. No macro, syntax, notation, axiom, sorry.
-/
import Derived.Test.YtjlmackfmmaknaaDoorRows
import GoSem.ClaimSeven
namespace Go.Proofs.YtjlmackfmmaknaaDoor
namespace Rows

/-- THE TIED CARD OF 'gavellaw02.ShaRows'. -/
def shaRowsCard : Claim7 := { stood := { row := shaRowsRow, standIns := [], harness := (true, "07f181746383047fd7b6f67c8a36cf667c5d4402a28ff3f98f04382a6b4a1dcc"), looks := false }, kinds := [], alts := [], laidByText := true, laidKinds := [.data], laidTests := true, laidLooks := .later }
def ShaRowsCardSaid : Prop := Claim7.holds Tryd.pinned (.plain (OpenSpec.ofChange shaRowsSpec)) shaRowsCard

/-- THE TIED CARD OF 'gavellaw02.ShaSets'. -/
def shaSetsCard : Claim7 := { stood := { row := shaSetsRow, standIns := [], harness := (true, "07f181746383047fd7b6f67c8a36cf667c5d4402a28ff3f98f04382a6b4a1dcc"), looks := false }, kinds := [], alts := [], laidByText := true, laidKinds := [.data], laidTests := true, laidLooks := .later }
def ShaSetsCardSaid : Prop := Claim7.holds Tryd.pinned (.plain (OpenSpec.ofChange shaSetsSpec)) shaSetsCard

/-- THE TIED CARD OF 'gavellaw02.ShaApart'. -/
def shaApartCard : Claim7 := { stood := { row := shaApartRow, standIns := [], harness := (true, "07f181746383047fd7b6f67c8a36cf667c5d4402a28ff3f98f04382a6b4a1dcc"), looks := false }, kinds := [], alts := [], laidByText := true, laidKinds := [.data], laidTests := true, laidLooks := .later }
def ShaApartCardSaid : Prop := Claim7.holds Tryd.pinned (.plain (OpenSpec.ofChange shaApartSpec)) shaApartCard

/-- THE TIED CARD OF 'gavellaw04.CommitRight'. -/
def commitRightCard : Claim7 := { stood := { row := commitRightRow, standIns := [], harness := (true, "07f181746383047fd7b6f67c8a36cf667c5d4402a28ff3f98f04382a6b4a1dcc"), looks := false }, kinds := [], alts := [], laidByText := true, laidKinds := [.data], laidTests := true, laidLooks := .later }
def CommitRightCardSaid : Prop := Claim7.holds Tryd.pinned (.plain (OpenSpec.ofChange commitRightSpec)) commitRightCard

/-- THE TIED CARD OF 'gavellaw05.WireUnsigned'. -/
def wireUnsignedCard : Claim7 := { stood := { row := wireUnsignedRow, standIns := [], harness := (true, "07f181746383047fd7b6f67c8a36cf667c5d4402a28ff3f98f04382a6b4a1dcc"), looks := false }, kinds := [], alts := [], laidByText := true, laidKinds := [.data], laidTests := true, laidLooks := .later }
def WireUnsignedCardSaid : Prop := Claim7.holds Tryd.pinned (.plain (OpenSpec.ofChange wireUnsignedSpec)) wireUnsignedCard

/-- THE TIED CARD OF 'gavellaw05.WireTexts'. -/
def wireTextsCard : Claim7 := { stood := { row := wireTextsRow, standIns := [], harness := (true, "07f181746383047fd7b6f67c8a36cf667c5d4402a28ff3f98f04382a6b4a1dcc"), looks := false }, kinds := [], alts := [], laidByText := true, laidKinds := [.data], laidTests := true, laidLooks := .later }
def WireTextsCardSaid : Prop := Claim7.holds Tryd.pinned (.plain (OpenSpec.ofChange wireTextsSpec)) wireTextsCard

/-- THE TIED CARD OF 'gavellaw05.WirePuts'. -/
def wirePutsCard : Claim7 := { stood := { row := wirePutsRow, standIns := [], harness := (true, "07f181746383047fd7b6f67c8a36cf667c5d4402a28ff3f98f04382a6b4a1dcc"), looks := false }, kinds := [], alts := [], laidByText := true, laidKinds := [.data], laidTests := true, laidLooks := .later }
def WirePutsCardSaid : Prop := Claim7.holds Tryd.pinned (.plain (OpenSpec.ofChange wirePutsSpec)) wirePutsCard

/-- THE SECOND FORM's CARD OF 'gavellaw02.ShaRows'. -/
def shaRowsUptoCard : Claim7 := { stood := { row := shaRowsUptoRow, standIns := [], harness := (true, "07f181746383047fd7b6f67c8a36cf667c5d4402a28ff3f98f04382a6b4a1dcc"), looks := false }, kinds := [], alts := [], laidByText := true, laidKinds := [.data], laidTests := true, laidLooks := .later }
def ShaRowsUptoCardSaid : Prop := Claim7.holds Tryd.pinned (.plain (OpenSpec.upto shaRowsSpec)) shaRowsUptoCard

/-- THE SECOND FORM's CARD OF 'gavellaw02.ShaSets'. -/
def shaSetsUptoCard : Claim7 := { stood := { row := shaSetsUptoRow, standIns := [], harness := (true, "07f181746383047fd7b6f67c8a36cf667c5d4402a28ff3f98f04382a6b4a1dcc"), looks := false }, kinds := [], alts := [], laidByText := true, laidKinds := [.data], laidTests := true, laidLooks := .later }
def ShaSetsUptoCardSaid : Prop := Claim7.holds Tryd.pinned (.plain (OpenSpec.upto shaSetsSpec)) shaSetsUptoCard

/-- THE SECOND FORM's CARD OF 'gavellaw02.ShaApart'. -/
def shaApartUptoCard : Claim7 := { stood := { row := shaApartUptoRow, standIns := [], harness := (true, "07f181746383047fd7b6f67c8a36cf667c5d4402a28ff3f98f04382a6b4a1dcc"), looks := false }, kinds := [], alts := [], laidByText := true, laidKinds := [.data], laidTests := true, laidLooks := .later }
def ShaApartUptoCardSaid : Prop := Claim7.holds Tryd.pinned (.plain (OpenSpec.upto shaApartSpec)) shaApartUptoCard

/-- THE SECOND FORM's CARD OF 'gavellaw04.CommitRight'. -/
def commitRightUptoCard : Claim7 := { stood := { row := commitRightUptoRow, standIns := [], harness := (true, "07f181746383047fd7b6f67c8a36cf667c5d4402a28ff3f98f04382a6b4a1dcc"), looks := false }, kinds := [], alts := [], laidByText := true, laidKinds := [.data], laidTests := true, laidLooks := .later }
def CommitRightUptoCardSaid : Prop := Claim7.holds Tryd.pinned (.plain (OpenSpec.upto commitRightSpec)) commitRightUptoCard

/-- THE SECOND FORM's CARD OF 'gavellaw05.WireUnsigned'. -/
def wireUnsignedUptoCard : Claim7 := { stood := { row := wireUnsignedUptoRow, standIns := [], harness := (true, "07f181746383047fd7b6f67c8a36cf667c5d4402a28ff3f98f04382a6b4a1dcc"), looks := false }, kinds := [], alts := [], laidByText := true, laidKinds := [.data], laidTests := true, laidLooks := .later }
def WireUnsignedUptoCardSaid : Prop := Claim7.holds Tryd.pinned (.plain (OpenSpec.upto wireUnsignedSpec)) wireUnsignedUptoCard

/-- THE SECOND FORM's CARD OF 'gavellaw05.WireTexts'. -/
def wireTextsUptoCard : Claim7 := { stood := { row := wireTextsUptoRow, standIns := [], harness := (true, "07f181746383047fd7b6f67c8a36cf667c5d4402a28ff3f98f04382a6b4a1dcc"), looks := false }, kinds := [], alts := [], laidByText := true, laidKinds := [.data], laidTests := true, laidLooks := .later }
def WireTextsUptoCardSaid : Prop := Claim7.holds Tryd.pinned (.plain (OpenSpec.upto wireTextsSpec)) wireTextsUptoCard

/-- THE SECOND FORM's CARD OF 'gavellaw05.WirePuts'. -/
def wirePutsUptoCard : Claim7 := { stood := { row := wirePutsUptoRow, standIns := [], harness := (true, "07f181746383047fd7b6f67c8a36cf667c5d4402a28ff3f98f04382a6b4a1dcc"), looks := false }, kinds := [], alts := [], laidByText := true, laidKinds := [.data], laidTests := true, laidLooks := .later }
def WirePutsUptoCardSaid : Prop := Claim7.holds Tryd.pinned (.plain (OpenSpec.upto wirePutsSpec)) wirePutsUptoCard
end Rows
end Go.Proofs.YtjlmackfmmaknaaDoor
