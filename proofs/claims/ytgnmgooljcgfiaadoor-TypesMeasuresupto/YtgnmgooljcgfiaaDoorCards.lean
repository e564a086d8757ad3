/-
  DERIVED. GIVEN WITH THE SEED: THE CARDS: each row of YtgnmgooljcgfiaaDoorRows.lean that lists a variable, with what it lists TIED to the program's text (the seventh form; the later family's looks); each row that meets fmt, with fmt's text TOLD by the authors' own Lean function (tested against real Go, not proved from fmt's source: count such statements apart). THE CARD IS WHAT COUNTS. Prove the row's statement (the work); the ties are given (YtgnmgooljcgfiaaDoorTie.lean); close each card by the builder's one call (the guide's Derived/Test/ToyasCard.lean, 'card_holds'). Laid BY PROGRAM, IN A SANDBOX (cutbox-door.mjs). By AI agents, Wed Nov 11 2026. No macro, syntax, notation, axiom, sorry.
-/
import Derived.Test.YtgnmgooljcgfiaaDoorRows
import GoSem.ClaimSeven
namespace Go.Proofs.YtgnmgooljcgfiaaDoor
namespace Rows

/-- THE TIED CARD OF 'waferlaw08.TypesMeasures'. -/
def typesMeasuresCard : Claim7 := { stood := { row := typesMeasuresRow, standIns := [], harness := (true, "7af615369f92bd443d404d97cbf50ced5ddb467610954fddae2101f95bcb6bd7"), looks := false }, kinds := [], alts := [], laidByText := true, laidKinds := [.data, .data, .data], laidTests := true, laidLooks := .later }
def TypesMeasuresCardSaid : Prop := Claim7.holds Tryd.pinned (.plain (OpenSpec.ofChange typesMeasuresSpec)) typesMeasuresCard

/-- THE SECOND FORM's CARD OF 'waferlaw08.TypesMeasures'. -/
def typesMeasuresUptoCard : Claim7 := { stood := { row := typesMeasuresUptoRow, standIns := [], harness := (true, "7af615369f92bd443d404d97cbf50ced5ddb467610954fddae2101f95bcb6bd7"), looks := false }, kinds := [], alts := [], laidByText := true, laidKinds := [.data, .data, .data], laidTests := true, laidLooks := .later }
def TypesMeasuresUptoCardSaid : Prop := Claim7.holds Tryd.pinned (.plain (OpenSpec.upto typesMeasuresSpec)) typesMeasuresUptoCard
end Rows
end Go.Proofs.YtgnmgooljcgfiaaDoor
