/-
  No cell of these rows narrows 'for every input' (looked for: loops, veiled, ifaces, maps, wideKeys, modest, calm, conditions, laid).
  DERIVED. THE GIVEN ROWS OF THIS SEAT. 5 by the template 'for every input the law returns true; each argument reads behind the call as it read before'; 0 by the template 'total and deterministic' (their statements: YtmcjcgodapkkpaaTotals.lean).
  GIVEN WITH THE SEED: the statements are not yours to turn. If you find one false, say at which input.
  Laid BY PROGRAM, IN A SANDBOX (cutbox-rows.mjs): the forced cells as the released guide's own fill.sh prints them over the translation cb6feff7b8cc4d96… (all of the seat's roots in one cut). By AI agents, Wed Nov 11 2026. No macro, syntax, notation, axiom, sorry.
-/
import Derived.Test.YtmcjcgodapkkpaaChecked
import GoSem.Claim
import GoSem.ClaimJoined
import GoSem.ClaimMapViews
import Derived.JoinedTies
import Derived.KernelRfl
namespace Go.Proofs.Ytmcjcgodapkkpaa
/- THE CELL 'sum', in the pinned program and in every row, IS THE sha256 OF THE DUMP (.gsa) THAT YtmcjcgodapkkpaaProg.lean LOADS. Nothing in Lean hashes anything: it is a label: what it is worth is what the hold of that sum in a sandbox is worth. -/
noncomputable def Try.pinned : Pinned := { name := "ytmcjcgodapkkpaa", sum := "cb6feff7b8cc4d96bb4e2dcdf7b2480e5d14434b0a68a4b9b60c411f12ba8f20", checked := Try.checked }
namespace Rows
def none {H : Type} : Left H := { results := [], args := [] }

/-- 'waferlaw01.TextPlaces': WHATEVER THE INPUT: true; the input reads as it did. -/
def textPlacesSpec : ChangeSpec := { name := "textPlaces", fn := fun _ => fun
  | [d1, d2, d3, d4] => { results := [.lit (.bool true)], args := [d1, d2, d3, d4] }
  | _ => none }
def textPlacesRow : OpenClaim := { program := "ytmcjcgodapkkpaa", sum := "cb6feff7b8cc4d96bb4e2dcdf7b2480e5d14434b0a68a4b9b60c411f12ba8f20", func := "wafer/waferlaw01.TextPlaces", spec := "textPlaces", inPlace := ["internal/bytealg.IndexByteString", "internal/abi.NoEscape", "internal/bytealg.MakeNoZero"], unfollowed := true, recurses := true, apart := false }
def TextPlacesSaid : Prop := textPlacesRow.holds Try.pinned (OpenSpec.ofChange textPlacesSpec)

/-- ITS FALSE NEIGHBOUR: 'it returns false'. Refute it at one input. -/
def textPlacesWrong : ChangeSpec := { name := "textPlaces", fn := fun _ => fun
  | [d1, d2, d3, d4] => { results := [.lit (.bool false)], args := [d1, d2, d3, d4] }
  | _ => none }
def TextPlacesWrongFalsely : Prop := textPlacesRow.holds Try.pinned (OpenSpec.ofChange textPlacesWrong)

/-- 'waferlaw01.TextAt': WHATEVER THE INPUT: true; the input reads as it did. -/
def textAtSpec : ChangeSpec := { name := "textAt", fn := fun _ => fun
  | [d1, d2, d3] => { results := [.lit (.bool true)], args := [d1, d2, d3] }
  | _ => none }
def textAtRow : OpenClaim := { program := "ytmcjcgodapkkpaa", sum := "cb6feff7b8cc4d96bb4e2dcdf7b2480e5d14434b0a68a4b9b60c411f12ba8f20", func := "wafer/waferlaw01.TextAt", spec := "textAt", inPlace := ["internal/bytealg.IndexByteString", "internal/abi.NoEscape", "internal/bytealg.MakeNoZero"], unfollowed := true, recurses := true, apart := false }
def TextAtSaid : Prop := textAtRow.holds Try.pinned (OpenSpec.ofChange textAtSpec)

/-- ITS FALSE NEIGHBOUR: 'it returns false'. Refute it at one input. -/
def textAtWrong : ChangeSpec := { name := "textAt", fn := fun _ => fun
  | [d1, d2, d3] => { results := [.lit (.bool false)], args := [d1, d2, d3] }
  | _ => none }
def TextAtWrongFalsely : Prop := textAtRow.holds Try.pinned (OpenSpec.ofChange textAtWrong)

/-- 'waferlaw01.TextBack': WHATEVER THE INPUT: true; the input reads as it did. -/
def textBackSpec : ChangeSpec := { name := "textBack", fn := fun _ => fun
  | [d1, d2] => { results := [.lit (.bool true)], args := [d1, d2] }
  | _ => none }
def textBackRow : OpenClaim := { program := "ytmcjcgodapkkpaa", sum := "cb6feff7b8cc4d96bb4e2dcdf7b2480e5d14434b0a68a4b9b60c411f12ba8f20", func := "wafer/waferlaw01.TextBack", spec := "textBack", inPlace := ["internal/bytealg.IndexByteString", "internal/abi.NoEscape", "internal/bytealg.MakeNoZero"], unfollowed := true, recurses := true, apart := false }
def TextBackSaid : Prop := textBackRow.holds Try.pinned (OpenSpec.ofChange textBackSpec)

/-- ITS FALSE NEIGHBOUR: 'it returns false'. Refute it at one input. -/
def textBackWrong : ChangeSpec := { name := "textBack", fn := fun _ => fun
  | [d1, d2] => { results := [.lit (.bool false)], args := [d1, d2] }
  | _ => none }
def TextBackWrongFalsely : Prop := textBackRow.holds Try.pinned (OpenSpec.ofChange textBackWrong)

/-- 'waferlaw01.TextSpans': WHATEVER THE INPUT: true; the input reads as it did. -/
def textSpansSpec : ChangeSpec := { name := "textSpans", fn := fun _ => fun
  | [d1, d2, d3, d4] => { results := [.lit (.bool true)], args := [d1, d2, d3, d4] }
  | _ => none }
def textSpansRow : OpenClaim := { program := "ytmcjcgodapkkpaa", sum := "cb6feff7b8cc4d96bb4e2dcdf7b2480e5d14434b0a68a4b9b60c411f12ba8f20", func := "wafer/waferlaw01.TextSpans", spec := "textSpans", inPlace := ["internal/bytealg.IndexByteString", "internal/abi.NoEscape", "internal/bytealg.MakeNoZero"], unfollowed := true, recurses := true, apart := false }
def TextSpansSaid : Prop := textSpansRow.holds Try.pinned (OpenSpec.ofChange textSpansSpec)

/-- ITS FALSE NEIGHBOUR: 'it returns false'. Refute it at one input. -/
def textSpansWrong : ChangeSpec := { name := "textSpans", fn := fun _ => fun
  | [d1, d2, d3, d4] => { results := [.lit (.bool false)], args := [d1, d2, d3, d4] }
  | _ => none }
def TextSpansWrongFalsely : Prop := textSpansRow.holds Try.pinned (OpenSpec.ofChange textSpansWrong)

/-- 'waferlaw01.TextCommon': WHATEVER THE INPUT: true; the input reads as it did. -/
def textCommonSpec : ChangeSpec := { name := "textCommon", fn := fun _ => fun
  | [d1, d2] => { results := [.lit (.bool true)], args := [d1, d2] }
  | _ => none }
def textCommonRow : OpenClaim := { program := "ytmcjcgodapkkpaa", sum := "cb6feff7b8cc4d96bb4e2dcdf7b2480e5d14434b0a68a4b9b60c411f12ba8f20", func := "wafer/waferlaw01.TextCommon", spec := "textCommon", inPlace := ["internal/bytealg.IndexByteString", "internal/abi.NoEscape", "internal/bytealg.MakeNoZero"], unfollowed := true, recurses := true, apart := false }
def TextCommonSaid : Prop := textCommonRow.holds Try.pinned (OpenSpec.ofChange textCommonSpec)

/-- ITS FALSE NEIGHBOUR: 'it returns false'. Refute it at one input. -/
def textCommonWrong : ChangeSpec := { name := "textCommon", fn := fun _ => fun
  | [d1, d2] => { results := [.lit (.bool false)], args := [d1, d2] }
  | _ => none }
def TextCommonWrongFalsely : Prop := textCommonRow.holds Try.pinned (OpenSpec.ofChange textCommonWrong)

/- THE SECOND FORM. 'bulk': how many values and letters a reading holds, each counted each time it is reached (what is shared counts as often as it is met; a slice's spare places count too). A statement '..UptoSaid' is the law's where the arguments, and the package variables that the reading takes, are together of bulk at most 1048576: NARROWER than '..Said'. Prove '..Said' where nothing that the law and all that it calls make is longer than what came in: it says more and counts as full. Else prove '..UptoSaid'. A law counts once. -/
mutual
def uptoBulk {H : Type} : DataW H → Nat
  | .lit (.string bytes) => bytes.length + 1
  | .lit _ => 1
  | .nil => 1
  | .ptr d => uptoBulk d + 1
  | .slice elems spare => uptoBulkAll elems + uptoBulkAll spare + 1
  | .agg parts => uptoBulkAll parts + 1
  | .iface _ d => uptoBulk d + 1
  | .map entries => uptoBulkEntries entries + 1
  | .held _ => 1
def uptoBulkAll {H : Type} : List (DataW H) → Nat
  | [] => 0
  | d :: r => uptoBulk d + uptoBulkAll r
def uptoBulkEntries {H : Type} : List (Lit × DataW H) → Nat
  | [] => 0
  | x :: r => uptoBulkEntry x + uptoBulkEntries r
def uptoBulkEntry {H : Type} : Lit × DataW H → Nat
  | (.string bytes, d) => bytes.length + uptoBulk d + 1
  | (_, d) => uptoBulk d + 1
 end
def uptoSmall : (H : Type) → List (DataW H) → Bool := fun _ ds => decide (uptoBulkAll ds ≤ 1048576)
def OpenSpec.upto (s : _root_.Go.ChangeSpec) : _root_.Go.OpenSpec := { _root_.Go.OpenSpec.ofChange s with cond := some uptoSmall }

/-- 'waferlaw01.TextPlaces', WHERE WHAT IT READS IS OF BULK AT MOST 1048576: true; the input reads as it did. -/
def textPlacesUptoRow : OpenClaim := { program := "ytmcjcgodapkkpaa", sum := "cb6feff7b8cc4d96bb4e2dcdf7b2480e5d14434b0a68a4b9b60c411f12ba8f20", func := "wafer/waferlaw01.TextPlaces", spec := "textPlaces", inPlace := ["internal/bytealg.IndexByteString", "internal/abi.NoEscape", "internal/bytealg.MakeNoZero"], unfollowed := true, recurses := true, apart := false, narrowed := true }
def TextPlacesUptoSaid : Prop := textPlacesUptoRow.holds Try.pinned (OpenSpec.upto textPlacesSpec)

/-- 'waferlaw01.TextAt', WHERE WHAT IT READS IS OF BULK AT MOST 1048576: true; the input reads as it did. -/
def textAtUptoRow : OpenClaim := { program := "ytmcjcgodapkkpaa", sum := "cb6feff7b8cc4d96bb4e2dcdf7b2480e5d14434b0a68a4b9b60c411f12ba8f20", func := "wafer/waferlaw01.TextAt", spec := "textAt", inPlace := ["internal/bytealg.IndexByteString", "internal/abi.NoEscape", "internal/bytealg.MakeNoZero"], unfollowed := true, recurses := true, apart := false, narrowed := true }
def TextAtUptoSaid : Prop := textAtUptoRow.holds Try.pinned (OpenSpec.upto textAtSpec)

/-- 'waferlaw01.TextBack', WHERE WHAT IT READS IS OF BULK AT MOST 1048576: true; the input reads as it did. -/
def textBackUptoRow : OpenClaim := { program := "ytmcjcgodapkkpaa", sum := "cb6feff7b8cc4d96bb4e2dcdf7b2480e5d14434b0a68a4b9b60c411f12ba8f20", func := "wafer/waferlaw01.TextBack", spec := "textBack", inPlace := ["internal/bytealg.IndexByteString", "internal/abi.NoEscape", "internal/bytealg.MakeNoZero"], unfollowed := true, recurses := true, apart := false, narrowed := true }
def TextBackUptoSaid : Prop := textBackUptoRow.holds Try.pinned (OpenSpec.upto textBackSpec)

/-- 'waferlaw01.TextSpans', WHERE WHAT IT READS IS OF BULK AT MOST 1048576: true; the input reads as it did. -/
def textSpansUptoRow : OpenClaim := { program := "ytmcjcgodapkkpaa", sum := "cb6feff7b8cc4d96bb4e2dcdf7b2480e5d14434b0a68a4b9b60c411f12ba8f20", func := "wafer/waferlaw01.TextSpans", spec := "textSpans", inPlace := ["internal/bytealg.IndexByteString", "internal/abi.NoEscape", "internal/bytealg.MakeNoZero"], unfollowed := true, recurses := true, apart := false, narrowed := true }
def TextSpansUptoSaid : Prop := textSpansUptoRow.holds Try.pinned (OpenSpec.upto textSpansSpec)

/-- 'waferlaw01.TextCommon', WHERE WHAT IT READS IS OF BULK AT MOST 1048576: true; the input reads as it did. -/
def textCommonUptoRow : OpenClaim := { program := "ytmcjcgodapkkpaa", sum := "cb6feff7b8cc4d96bb4e2dcdf7b2480e5d14434b0a68a4b9b60c411f12ba8f20", func := "wafer/waferlaw01.TextCommon", spec := "textCommon", inPlace := ["internal/bytealg.IndexByteString", "internal/abi.NoEscape", "internal/bytealg.MakeNoZero"], unfollowed := true, recurses := true, apart := false, narrowed := true }
def TextCommonUptoSaid : Prop := textCommonUptoRow.holds Try.pinned (OpenSpec.upto textCommonSpec)

end Rows
end Go.Proofs.Ytmcjcgodapkkpaa
