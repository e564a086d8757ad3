/-
  DERIVED. GIVEN WITH THE SEED: THE CARDS: each row of YtfeppchgmobfpaaDoorRows.lean that lists a variable, with what it lists TIED to the program's text (the seventh form; the later family's looks); each row that meets fmt, with fmt's text TOLD by the authors' own Lean function (tested against real Go, not proved from fmt's source: count such statements apart). THE CARD IS WHAT COUNTS. Prove the row's statement (the work); the ties are given (YtfeppchgmobfpaaDoorTie.lean); close each card by the builder's one call (the guide's Derived/Test/ToyasCard.lean, 'card_holds'). Laid BY PROGRAM, IN A SANDBOX (cutbox-door.mjs). By AI agents, Wed Nov 11 2026. No macro, syntax, notation, axiom, sorry.
-/
import Derived.Test.YtfeppchgmobfpaaDoorRows
import GoSem.ClaimSeven
namespace Go.Proofs.YtfeppchgmobfpaaDoor
namespace Rows

/-- THE TIED CARD OF 'waferlaw09.TargetTwice'. -/
def targetTwiceCard : Claim7 := { stood := { row := targetTwiceRow, standIns := [], harness := (true, "5b4c95ed1939ee16cd4c7734c049b8e0abf24a0dd4a56b1d254a40d50cfd1ae8"), looks := false }, kinds := [], alts := [], laidByText := true, laidKinds := [.data, .data, .data], laidTests := true, laidLooks := .later }
def TargetTwiceCardSaid : Prop := Claim7.holds Tryd.pinned (.plain (OpenSpec.ofChange targetTwiceSpec)) targetTwiceCard

/-- THE SECOND FORM's CARD OF 'waferlaw09.TargetTwice'. -/
def targetTwiceUptoCard : Claim7 := { stood := { row := targetTwiceUptoRow, standIns := [], harness := (true, "5b4c95ed1939ee16cd4c7734c049b8e0abf24a0dd4a56b1d254a40d50cfd1ae8"), looks := false }, kinds := [], alts := [], laidByText := true, laidKinds := [.data, .data, .data], laidTests := true, laidLooks := .later }
def TargetTwiceUptoCardSaid : Prop := Claim7.holds Tryd.pinned (.plain (OpenSpec.upto targetTwiceSpec)) targetTwiceUptoCard
end Rows
end Go.Proofs.YtfeppchgmobfpaaDoor
