/-
  DERIVED. GIVEN WITH THE SEED: THE CARDS: each row of YtcccmbiocknknaaDoorRows.lean that lists a variable, with what it lists TIED to the program's text (the seventh form; the later family's looks); each row that meets fmt, with fmt's text TOLD by the authors' own Lean function (tested against real Go, not proved from fmt's source: count such statements apart). THE CARD IS WHAT COUNTS. Prove the row's statement (the work); the ties are given (YtcccmbiocknknaaDoorTie.lean); close each card by the builder's one call (the guide's Derived/Test/ToyasCard.lean, 'card_holds'). Laid BY PROGRAM, IN A SANDBOX (cutbox-door.mjs). By AI agents, Wed Nov 11 2026. No macro, syntax, notation, axiom, sorry.
-/
import Derived.Test.YtcccmbiocknknaaDoorRows
import GoSem.ClaimSeven
namespace Go.Proofs.YtcccmbiocknknaaDoor
namespace Rows

/-- THE TIED CARD OF 'waferlaw02.NamesRights'. -/
def namesRightsCard : Claim7 := { stood := { row := namesRightsRow, standIns := [], harness := (true, "56b6489ddfcec4b46848f130c36029f819d6e69cd220e66ee81b7bb128969881"), looks := false }, kinds := [], alts := [], laidByText := true, laidKinds := [.data, .pinned], laidTests := true, laidLooks := .later }
def NamesRightsCardSaid : Prop := Claim7.holds Tryd.pinned (.plain (OpenSpec.ofChange namesRightsSpec)) namesRightsCard

/-- THE TIED CARD OF 'waferlaw02.NamesSets'. -/
def namesSetsCard : Claim7 := { stood := { row := namesSetsRow, standIns := [], harness := (true, "56b6489ddfcec4b46848f130c36029f819d6e69cd220e66ee81b7bb128969881"), looks := false }, kinds := [], alts := [], laidByText := true, laidKinds := [.data, .pinned], laidTests := true, laidLooks := .later }
def NamesSetsCardSaid : Prop := Claim7.holds Tryd.pinned (.plain (OpenSpec.ofChange namesSetsSpec)) namesSetsCard

/-- THE TIED CARD OF 'waferlaw02.NamesPaths'. -/
def namesPathsCard : Claim7 := { stood := { row := namesPathsRow, standIns := [], harness := (true, "56b6489ddfcec4b46848f130c36029f819d6e69cd220e66ee81b7bb128969881"), looks := false }, kinds := [], alts := [], laidByText := true, laidKinds := [.data, .pinned], laidTests := true, laidLooks := .later }
def NamesPathsCardSaid : Prop := Claim7.holds Tryd.pinned (.plain (OpenSpec.ofChange namesPathsSpec)) namesPathsCard

/-- THE TIED CARD OF 'waferlaw02.NamesLabels'. -/
def namesLabelsCard : Claim7 := { stood := { row := namesLabelsRow, standIns := [], harness := (true, "56b6489ddfcec4b46848f130c36029f819d6e69cd220e66ee81b7bb128969881"), looks := false }, kinds := [], alts := [], laidByText := true, laidKinds := [.data, .pinned], laidTests := true, laidLooks := .later }
def NamesLabelsCardSaid : Prop := Claim7.holds Tryd.pinned (.plain (OpenSpec.ofChange namesLabelsSpec)) namesLabelsCard

/-- THE TIED CARD OF 'waferlaw02.NamesOrder'. -/
def namesOrderCard : Claim7 := { stood := { row := namesOrderRow, standIns := [], harness := (true, "56b6489ddfcec4b46848f130c36029f819d6e69cd220e66ee81b7bb128969881"), looks := false }, kinds := [], alts := [], laidByText := true, laidKinds := [.data, .pinned], laidTests := true, laidLooks := .later }
def NamesOrderCardSaid : Prop := Claim7.holds Tryd.pinned (.plain (OpenSpec.ofChange namesOrderSpec)) namesOrderCard

/-- THE TIED CARD OF 'waferlaw02.NamesBack'. -/
def namesBackCard : Claim7 := { stood := { row := namesBackRow, standIns := [], harness := (true, "56b6489ddfcec4b46848f130c36029f819d6e69cd220e66ee81b7bb128969881"), looks := false }, kinds := [], alts := [], laidByText := true, laidKinds := [.data, .pinned], laidTests := true, laidLooks := .later }
def NamesBackCardSaid : Prop := Claim7.holds Tryd.pinned (.plain (OpenSpec.ofChange namesBackSpec)) namesBackCard

/-- THE SECOND FORM's CARD OF 'waferlaw02.NamesRights'. -/
def namesRightsUptoCard : Claim7 := { stood := { row := namesRightsUptoRow, standIns := [], harness := (true, "56b6489ddfcec4b46848f130c36029f819d6e69cd220e66ee81b7bb128969881"), looks := false }, kinds := [], alts := [], laidByText := true, laidKinds := [.data, .pinned], laidTests := true, laidLooks := .later }
def NamesRightsUptoCardSaid : Prop := Claim7.holds Tryd.pinned (.plain (OpenSpec.upto namesRightsSpec)) namesRightsUptoCard

/-- THE SECOND FORM's CARD OF 'waferlaw02.NamesSets'. -/
def namesSetsUptoCard : Claim7 := { stood := { row := namesSetsUptoRow, standIns := [], harness := (true, "56b6489ddfcec4b46848f130c36029f819d6e69cd220e66ee81b7bb128969881"), looks := false }, kinds := [], alts := [], laidByText := true, laidKinds := [.data, .pinned], laidTests := true, laidLooks := .later }
def NamesSetsUptoCardSaid : Prop := Claim7.holds Tryd.pinned (.plain (OpenSpec.upto namesSetsSpec)) namesSetsUptoCard

/-- THE SECOND FORM's CARD OF 'waferlaw02.NamesPaths'. -/
def namesPathsUptoCard : Claim7 := { stood := { row := namesPathsUptoRow, standIns := [], harness := (true, "56b6489ddfcec4b46848f130c36029f819d6e69cd220e66ee81b7bb128969881"), looks := false }, kinds := [], alts := [], laidByText := true, laidKinds := [.data, .pinned], laidTests := true, laidLooks := .later }
def NamesPathsUptoCardSaid : Prop := Claim7.holds Tryd.pinned (.plain (OpenSpec.upto namesPathsSpec)) namesPathsUptoCard

/-- THE SECOND FORM's CARD OF 'waferlaw02.NamesLabels'. -/
def namesLabelsUptoCard : Claim7 := { stood := { row := namesLabelsUptoRow, standIns := [], harness := (true, "56b6489ddfcec4b46848f130c36029f819d6e69cd220e66ee81b7bb128969881"), looks := false }, kinds := [], alts := [], laidByText := true, laidKinds := [.data, .pinned], laidTests := true, laidLooks := .later }
def NamesLabelsUptoCardSaid : Prop := Claim7.holds Tryd.pinned (.plain (OpenSpec.upto namesLabelsSpec)) namesLabelsUptoCard

/-- THE SECOND FORM's CARD OF 'waferlaw02.NamesOrder'. -/
def namesOrderUptoCard : Claim7 := { stood := { row := namesOrderUptoRow, standIns := [], harness := (true, "56b6489ddfcec4b46848f130c36029f819d6e69cd220e66ee81b7bb128969881"), looks := false }, kinds := [], alts := [], laidByText := true, laidKinds := [.data, .pinned], laidTests := true, laidLooks := .later }
def NamesOrderUptoCardSaid : Prop := Claim7.holds Tryd.pinned (.plain (OpenSpec.upto namesOrderSpec)) namesOrderUptoCard

/-- THE SECOND FORM's CARD OF 'waferlaw02.NamesBack'. -/
def namesBackUptoCard : Claim7 := { stood := { row := namesBackUptoRow, standIns := [], harness := (true, "56b6489ddfcec4b46848f130c36029f819d6e69cd220e66ee81b7bb128969881"), looks := false }, kinds := [], alts := [], laidByText := true, laidKinds := [.data, .pinned], laidTests := true, laidLooks := .later }
def NamesBackUptoCardSaid : Prop := Claim7.holds Tryd.pinned (.plain (OpenSpec.upto namesBackSpec)) namesBackUptoCard
end Rows
end Go.Proofs.YtcccmbiocknknaaDoor
