/-
  DERIVED. GIVEN WITH THE SEED: THE CARDS: each row of YtbdohoebpaiecaaDoorRows.lean that lists a variable, with what it lists TIED to the program's text (the seventh form; the later family's looks); each row that meets fmt, with fmt's text TOLD by the authors' own Lean function (tested against real Go, not proved from fmt's source: count such statements apart). THE CARD IS WHAT COUNTS. Prove the row's statement (the work); the ties are given (YtbdohoebpaiecaaDoorTie.lean); close each card by the builder's one call (the guide's Derived/Test/ToyasCard.lean, 'card_holds'). Laid BY PROGRAM, IN A SANDBOX (cutbox-door.mjs). By AI agents, Wed Nov 11 2026. No macro, syntax, notation, axiom, sorry.
-/
import Derived.Test.YtbdohoebpaiecaaDoorRows
import GoSem.ClaimSeven
namespace Go.Proofs.YtbdohoebpaiecaaDoor
namespace Rows

/-- THE TIED CARD OF 'waferlaw08.TypesMeasures'. -/
def typesMeasuresCard : Claim7 := { stood := { row := typesMeasuresRow, standIns := [], harness := (true, "3e6e3b65626b3a4cae2f349494b80d6bf0f1b2f69b7eee038c044377ad0060e9"), looks := false }, kinds := [], alts := [], laidByText := true, laidKinds := [.data, .data, .data], laidTests := true, laidLooks := .later }
def TypesMeasuresCardSaid : Prop := Claim7.holds Tryd.pinned (.plain (OpenSpec.ofChange typesMeasuresSpec)) typesMeasuresCard

/-- THE TIED CARD OF 'waferlaw08.TypesTwo'. -/
def typesTwoCard : Claim7 := { stood := { row := typesTwoRow, standIns := [], harness := (true, "3e6e3b65626b3a4cae2f349494b80d6bf0f1b2f69b7eee038c044377ad0060e9"), looks := false }, kinds := [], alts := [], laidByText := true, laidKinds := [.data, .data, .data], laidTests := true, laidLooks := .later }
def TypesTwoCardSaid : Prop := Claim7.holds Tryd.pinned (.plain (OpenSpec.ofChange typesTwoSpec)) typesTwoCard

/-- THE TIED CARD OF 'waferlaw08.TypesReplaces'. -/
def typesReplacesCard : Claim7 := { stood := { row := typesReplacesRow, standIns := [], harness := (true, "3e6e3b65626b3a4cae2f349494b80d6bf0f1b2f69b7eee038c044377ad0060e9"), looks := false }, kinds := [], alts := [], laidByText := true, laidKinds := [.data, .data, .data], laidTests := true, laidLooks := .later }
def TypesReplacesCardSaid : Prop := Claim7.holds Tryd.pinned (.plain (OpenSpec.ofChange typesReplacesSpec)) typesReplacesCard

/-- THE TIED CARD OF 'waferlaw08.TypesSchemes'. -/
def typesSchemesCard : Claim7 := { stood := { row := typesSchemesRow, standIns := [], harness := (true, "3e6e3b65626b3a4cae2f349494b80d6bf0f1b2f69b7eee038c044377ad0060e9"), looks := false }, kinds := [], alts := [], laidByText := true, laidKinds := [.data, .data, .data], laidTests := true, laidLooks := .later }
def TypesSchemesCardSaid : Prop := Claim7.holds Tryd.pinned (.plain (OpenSpec.ofChange typesSchemesSpec)) typesSchemesCard

/-- THE TIED CARD OF 'waferlaw08.TypesOrder'. -/
def typesOrderCard : Claim7 := { stood := { row := typesOrderRow, standIns := [], harness := (true, "3e6e3b65626b3a4cae2f349494b80d6bf0f1b2f69b7eee038c044377ad0060e9"), looks := false }, kinds := [], alts := [], laidByText := true, laidKinds := [.data, .data, .data], laidTests := true, laidLooks := .later }
def TypesOrderCardSaid : Prop := Claim7.holds Tryd.pinned (.plain (OpenSpec.ofChange typesOrderSpec)) typesOrderCard

/-- THE TIED CARD OF 'waferlaw08.TypesPutting'. -/
def typesPuttingCard : Claim7 := { stood := { row := typesPuttingRow, standIns := [], harness := (true, "3e6e3b65626b3a4cae2f349494b80d6bf0f1b2f69b7eee038c044377ad0060e9"), looks := false }, kinds := [], alts := [], laidByText := true, laidKinds := [.data, .data, .data], laidTests := true, laidLooks := .later }
def TypesPuttingCardSaid : Prop := Claim7.holds Tryd.pinned (.plain (OpenSpec.ofChange typesPuttingSpec)) typesPuttingCard

/-- THE SECOND FORM's CARD OF 'waferlaw08.TypesMeasures'. -/
def typesMeasuresUptoCard : Claim7 := { stood := { row := typesMeasuresUptoRow, standIns := [], harness := (true, "3e6e3b65626b3a4cae2f349494b80d6bf0f1b2f69b7eee038c044377ad0060e9"), looks := false }, kinds := [], alts := [], laidByText := true, laidKinds := [.data, .data, .data], laidTests := true, laidLooks := .later }
def TypesMeasuresUptoCardSaid : Prop := Claim7.holds Tryd.pinned (.plain (OpenSpec.upto typesMeasuresSpec)) typesMeasuresUptoCard

/-- THE SECOND FORM's CARD OF 'waferlaw08.TypesTwo'. -/
def typesTwoUptoCard : Claim7 := { stood := { row := typesTwoUptoRow, standIns := [], harness := (true, "3e6e3b65626b3a4cae2f349494b80d6bf0f1b2f69b7eee038c044377ad0060e9"), looks := false }, kinds := [], alts := [], laidByText := true, laidKinds := [.data, .data, .data], laidTests := true, laidLooks := .later }
def TypesTwoUptoCardSaid : Prop := Claim7.holds Tryd.pinned (.plain (OpenSpec.upto typesTwoSpec)) typesTwoUptoCard

/-- THE SECOND FORM's CARD OF 'waferlaw08.TypesReplaces'. -/
def typesReplacesUptoCard : Claim7 := { stood := { row := typesReplacesUptoRow, standIns := [], harness := (true, "3e6e3b65626b3a4cae2f349494b80d6bf0f1b2f69b7eee038c044377ad0060e9"), looks := false }, kinds := [], alts := [], laidByText := true, laidKinds := [.data, .data, .data], laidTests := true, laidLooks := .later }
def TypesReplacesUptoCardSaid : Prop := Claim7.holds Tryd.pinned (.plain (OpenSpec.upto typesReplacesSpec)) typesReplacesUptoCard

/-- THE SECOND FORM's CARD OF 'waferlaw08.TypesSchemes'. -/
def typesSchemesUptoCard : Claim7 := { stood := { row := typesSchemesUptoRow, standIns := [], harness := (true, "3e6e3b65626b3a4cae2f349494b80d6bf0f1b2f69b7eee038c044377ad0060e9"), looks := false }, kinds := [], alts := [], laidByText := true, laidKinds := [.data, .data, .data], laidTests := true, laidLooks := .later }
def TypesSchemesUptoCardSaid : Prop := Claim7.holds Tryd.pinned (.plain (OpenSpec.upto typesSchemesSpec)) typesSchemesUptoCard

/-- THE SECOND FORM's CARD OF 'waferlaw08.TypesOrder'. -/
def typesOrderUptoCard : Claim7 := { stood := { row := typesOrderUptoRow, standIns := [], harness := (true, "3e6e3b65626b3a4cae2f349494b80d6bf0f1b2f69b7eee038c044377ad0060e9"), looks := false }, kinds := [], alts := [], laidByText := true, laidKinds := [.data, .data, .data], laidTests := true, laidLooks := .later }
def TypesOrderUptoCardSaid : Prop := Claim7.holds Tryd.pinned (.plain (OpenSpec.upto typesOrderSpec)) typesOrderUptoCard

/-- THE SECOND FORM's CARD OF 'waferlaw08.TypesPutting'. -/
def typesPuttingUptoCard : Claim7 := { stood := { row := typesPuttingUptoRow, standIns := [], harness := (true, "3e6e3b65626b3a4cae2f349494b80d6bf0f1b2f69b7eee038c044377ad0060e9"), looks := false }, kinds := [], alts := [], laidByText := true, laidKinds := [.data, .data, .data], laidTests := true, laidLooks := .later }
def TypesPuttingUptoCardSaid : Prop := Claim7.holds Tryd.pinned (.plain (OpenSpec.upto typesPuttingSpec)) typesPuttingUptoCard
end Rows
end Go.Proofs.YtbdohoebpaiecaaDoor
