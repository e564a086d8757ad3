/-
  DERIVED. GIVEN WITH THE SEED: THE CARDS: each row of YtfeppchgmobfpaaGreatDoorRows.lean that lists a variable, with what it lists TIED to the program's text (the seventh form; the later family's looks); each row that meets fmt, with fmt's text TOLD by the authors' own Lean function (tested against real Go, not proved from fmt's source: count such statements apart). THE CARD IS WHAT COUNTS. Prove the row's statement (the work); the ties are given (YtfeppchgmobfpaaGreatDoorTie.lean); close each card by the builder's one call (the guide's Derived/Test/ToyasCard.lean, 'card_holds'). Laid BY PROGRAM, IN A SANDBOX (cutbox-door.mjs). By AI agents, Wed Nov 11 2026. No macro, syntax, notation, axiom, sorry.
-/
import Derived.Test.YtfeppchgmobfpaaGreatDoorRows
import GoSem.ClaimSeven
namespace Go.Proofs.YtfeppchgmobfpaaGreatDoor
namespace Rows

/-- THE TIED CARD OF 'waferlaw09.TargetTypes'. -/
def targetTypesCard : Claim7 := { stood := { row := targetTypesRow, standIns := [], harness := (true, "b8e2a7b7bde3758c1a30ca7464c4c23a2e1cdfc3b9fa564e5ca815af2cdaa010"), looks := false }, kinds := [], alts := [], laidByText := true, laidKinds := [.data, .data, .data], laidTests := true, laidLooks := .later }
def TargetTypesCardSaid : Prop := Claim7.holds Tryz.pinned (.plain (OpenSpec.ofChange targetTypesSpec)) targetTypesCard

/-- THE TIED CARD OF 'waferlaw09.TargetTexts'. -/
def targetTextsCard : Claim7 := { stood := { row := targetTextsRow, standIns := [], harness := (true, "b8e2a7b7bde3758c1a30ca7464c4c23a2e1cdfc3b9fa564e5ca815af2cdaa010"), looks := false }, kinds := [], alts := [], laidByText := true, laidKinds := [.data, .data, .data, .data, .pinned, .pinned, .pinned, .pinned, .pinned, .pinned], laidTests := true, laidLooks := .later }
def TargetTextsCardSaid : Prop := Claim7.holds Tryz.pinned (.plain (OpenSpec.ofChange targetTextsSpec)) targetTextsCard

/-- THE TIED CARD OF 'waferlaw09.TargetFree'. -/
def targetFreeCard : Claim7 := { stood := { row := targetFreeRow, standIns := [], harness := (true, "b8e2a7b7bde3758c1a30ca7464c4c23a2e1cdfc3b9fa564e5ca815af2cdaa010"), looks := false }, kinds := [], alts := [], laidByText := true, laidKinds := [.data, .data, .data], laidTests := true, laidLooks := .later }
def TargetFreeCardSaid : Prop := Claim7.holds Tryz.pinned (.plain (OpenSpec.ofChange targetFreeSpec)) targetFreeCard

/-- THE TIED CARD OF 'waferlaw09.TargetSizes'. -/
def targetSizesCard : Claim7 := { stood := { row := targetSizesRow, standIns := [], harness := (true, "b8e2a7b7bde3758c1a30ca7464c4c23a2e1cdfc3b9fa564e5ca815af2cdaa010"), looks := false }, kinds := [], alts := [], laidByText := true, laidKinds := [.data, .data, .data], laidTests := true, laidLooks := .later }
def TargetSizesCardSaid : Prop := Claim7.holds Tryz.pinned (.plain (OpenSpec.ofChange targetSizesSpec)) targetSizesCard

/-- THE SECOND FORM's CARD OF 'waferlaw09.TargetTypes'. -/
def targetTypesUptoCard : Claim7 := { stood := { row := targetTypesUptoRow, standIns := [], harness := (true, "b8e2a7b7bde3758c1a30ca7464c4c23a2e1cdfc3b9fa564e5ca815af2cdaa010"), looks := false }, kinds := [], alts := [], laidByText := true, laidKinds := [.data, .data, .data], laidTests := true, laidLooks := .later }
def TargetTypesUptoCardSaid : Prop := Claim7.holds Tryz.pinned (.plain (OpenSpec.upto targetTypesSpec)) targetTypesUptoCard

/-- THE SECOND FORM's CARD OF 'waferlaw09.TargetTexts'. -/
def targetTextsUptoCard : Claim7 := { stood := { row := targetTextsUptoRow, standIns := [], harness := (true, "b8e2a7b7bde3758c1a30ca7464c4c23a2e1cdfc3b9fa564e5ca815af2cdaa010"), looks := false }, kinds := [], alts := [], laidByText := true, laidKinds := [.data, .data, .data, .data, .pinned, .pinned, .pinned, .pinned, .pinned, .pinned], laidTests := true, laidLooks := .later }
def TargetTextsUptoCardSaid : Prop := Claim7.holds Tryz.pinned (.plain (OpenSpec.upto targetTextsSpec)) targetTextsUptoCard

/-- THE SECOND FORM's CARD OF 'waferlaw09.TargetFree'. -/
def targetFreeUptoCard : Claim7 := { stood := { row := targetFreeUptoRow, standIns := [], harness := (true, "b8e2a7b7bde3758c1a30ca7464c4c23a2e1cdfc3b9fa564e5ca815af2cdaa010"), looks := false }, kinds := [], alts := [], laidByText := true, laidKinds := [.data, .data, .data], laidTests := true, laidLooks := .later }
def TargetFreeUptoCardSaid : Prop := Claim7.holds Tryz.pinned (.plain (OpenSpec.upto targetFreeSpec)) targetFreeUptoCard

/-- THE SECOND FORM's CARD OF 'waferlaw09.TargetSizes'. -/
def targetSizesUptoCard : Claim7 := { stood := { row := targetSizesUptoRow, standIns := [], harness := (true, "b8e2a7b7bde3758c1a30ca7464c4c23a2e1cdfc3b9fa564e5ca815af2cdaa010"), looks := false }, kinds := [], alts := [], laidByText := true, laidKinds := [.data, .data, .data], laidTests := true, laidLooks := .later }
def TargetSizesUptoCardSaid : Prop := Claim7.holds Tryz.pinned (.plain (OpenSpec.upto targetSizesSpec)) targetSizesUptoCard
end Rows
end Go.Proofs.YtfeppchgmobfpaaGreatDoor
