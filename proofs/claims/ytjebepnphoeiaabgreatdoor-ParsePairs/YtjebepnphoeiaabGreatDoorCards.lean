/-
  DERIVED. GIVEN WITH THE SEED: THE CARDS: each row of YtjebepnphoeiaabGreatDoorRows.lean that lists a variable, with what it lists TIED to the program's text (the seventh form; the later family's looks); each row that meets fmt, with fmt's text TOLD by the authors' own Lean function (tested against real Go, not proved from fmt's source: count such statements apart). THE CARD IS WHAT COUNTS. Prove the row's statement (the work); the ties are given (YtjebepnphoeiaabGreatDoorTie.lean); close each card by the builder's one call (the guide's Derived/Test/ToyasCard.lean, 'card_holds'). Laid BY PROGRAM, IN A SANDBOX (cutbox-door.mjs). By AI agents, Wed Nov 11 2026. No macro, syntax, notation, axiom, sorry.
-/
import Derived.Test.YtjebepnphoeiaabGreatDoorRows
import GoSem.ClaimSeven
namespace Go.Proofs.YtjebepnphoeiaabGreatDoor
namespace Rows

/-- THE TIED CARD OF 'waferlaw05.ParsePairs'. -/
def parsePairsCard : Claim7 := { stood := { row := parsePairsRow, standIns := [], harness := (true, "81163040d3b58f5f369fa38fdc560ae136dbe3efdc3d0e95d2c0d33657d5ea6a"), looks := true }, kinds := [], alts := [], laidByText := true, laidKinds := [.data, .data, .data, .sentinel, .sentinel], laidTests := true, laidLooks := .later }
def ParsePairsCardSaid : Prop := Claim7.holds Tryz.pinned (.plain (OpenSpec.ofChange parsePairsSpec)) parsePairsCard

/-- THE SECOND FORM's CARD OF 'waferlaw05.ParsePairs'. -/
def parsePairsUptoCard : Claim7 := { stood := { row := parsePairsUptoRow, standIns := [], harness := (true, "81163040d3b58f5f369fa38fdc560ae136dbe3efdc3d0e95d2c0d33657d5ea6a"), looks := true }, kinds := [], alts := [], laidByText := true, laidKinds := [.data, .data, .data, .sentinel, .sentinel], laidTests := true, laidLooks := .later }
def ParsePairsUptoCardSaid : Prop := Claim7.holds Tryz.pinned (.plain (OpenSpec.upto parsePairsSpec)) parsePairsUptoCard
end Rows
end Go.Proofs.YtjebepnphoeiaabGreatDoor
