/-
  DERIVED. GIVEN WITH THE SEED: THE CARDS: each row of YtbdohoebpaiecabDoorRows.lean that lists a variable, with what it lists TIED to the program's text (the seventh form; the later family's looks); each row that meets fmt, with fmt's text TOLD by the authors' own Lean function (tested against real Go, not proved from fmt's source: count such statements apart). THE CARD IS WHAT COUNTS. Prove the row's statement (the work); the ties are given (YtbdohoebpaiecabDoorTie.lean); close each card by the builder's one call (the guide's Derived/Test/ToyasCard.lean, 'card_holds'). Laid BY PROGRAM, IN A SANDBOX (cutbox-door.mjs). By AI agents, Wed Nov 11 2026. No macro, syntax, notation, axiom, sorry.
-/
import Derived.Test.YtbdohoebpaiecabDoorRows
import GoSem.ClaimSeven
namespace Go.Proofs.YtbdohoebpaiecabDoor
namespace Rows

/-- THE TIED CARD OF 'waferlaw08.TypesTwice'. -/
def typesTwiceCard : Claim7 := { stood := { row := typesTwiceRow, standIns := [], harness := (true, "446c60c8f1d505a26d21f6a33dc33474af21531e9390b151d84d5c8e22f67a27"), looks := false }, kinds := [], alts := [], laidByText := true, laidKinds := [.data, .data, .data], laidTests := true, laidLooks := .later }
def TypesTwiceCardSaid : Prop := Claim7.holds Tryd.pinned (.plain (OpenSpec.ofChange typesTwiceSpec)) typesTwiceCard

/-- THE TIED CARD OF 'waferlaw08.TypesUnlike'. -/
def typesUnlikeCard : Claim7 := { stood := { row := typesUnlikeRow, standIns := [], harness := (true, "446c60c8f1d505a26d21f6a33dc33474af21531e9390b151d84d5c8e22f67a27"), looks := false }, kinds := [], alts := [], laidByText := true, laidKinds := [.data, .data, .data], laidTests := true, laidLooks := .later }
def TypesUnlikeCardSaid : Prop := Claim7.holds Tryd.pinned (.plain (OpenSpec.ofChange typesUnlikeSpec)) typesUnlikeCard

/-- THE TIED CARD OF 'waferlaw08.TypesNodes'. -/
def typesNodesCard : Claim7 := { stood := { row := typesNodesRow, standIns := [], harness := (true, "446c60c8f1d505a26d21f6a33dc33474af21531e9390b151d84d5c8e22f67a27"), looks := false }, kinds := [], alts := [], laidByText := true, laidKinds := [.data, .data, .data], laidTests := true, laidLooks := .later }
def TypesNodesCardSaid : Prop := Claim7.holds Tryd.pinned (.plain (OpenSpec.ofChange typesNodesSpec)) typesNodesCard

/-- THE SECOND FORM's CARD OF 'waferlaw08.TypesTwice'. -/
def typesTwiceUptoCard : Claim7 := { stood := { row := typesTwiceUptoRow, standIns := [], harness := (true, "446c60c8f1d505a26d21f6a33dc33474af21531e9390b151d84d5c8e22f67a27"), looks := false }, kinds := [], alts := [], laidByText := true, laidKinds := [.data, .data, .data], laidTests := true, laidLooks := .later }
def TypesTwiceUptoCardSaid : Prop := Claim7.holds Tryd.pinned (.plain (OpenSpec.upto typesTwiceSpec)) typesTwiceUptoCard

/-- THE SECOND FORM's CARD OF 'waferlaw08.TypesUnlike'. -/
def typesUnlikeUptoCard : Claim7 := { stood := { row := typesUnlikeUptoRow, standIns := [], harness := (true, "446c60c8f1d505a26d21f6a33dc33474af21531e9390b151d84d5c8e22f67a27"), looks := false }, kinds := [], alts := [], laidByText := true, laidKinds := [.data, .data, .data], laidTests := true, laidLooks := .later }
def TypesUnlikeUptoCardSaid : Prop := Claim7.holds Tryd.pinned (.plain (OpenSpec.upto typesUnlikeSpec)) typesUnlikeUptoCard

/-- THE SECOND FORM's CARD OF 'waferlaw08.TypesNodes'. -/
def typesNodesUptoCard : Claim7 := { stood := { row := typesNodesUptoRow, standIns := [], harness := (true, "446c60c8f1d505a26d21f6a33dc33474af21531e9390b151d84d5c8e22f67a27"), looks := false }, kinds := [], alts := [], laidByText := true, laidKinds := [.data, .data, .data], laidTests := true, laidLooks := .later }
def TypesNodesUptoCardSaid : Prop := Claim7.holds Tryd.pinned (.plain (OpenSpec.upto typesNodesSpec)) typesNodesUptoCard
end Rows
end Go.Proofs.YtbdohoebpaiecabDoor
