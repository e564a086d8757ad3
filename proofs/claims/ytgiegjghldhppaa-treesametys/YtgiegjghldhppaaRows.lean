/-
  NARROWER THAN 'FOR EVERY INPUT', by the rows' own cells (each row's printed sentence says how): TreeSames: loops · TreeSameMods: loops · TreeSameTys: loops.
  DERIVED. THE GIVEN ROWS OF THIS SEAT. 3 by the template 'for every input the law returns true; each argument reads behind the call as it read before'; 0 by the template 'total and deterministic' (their statements: YtgiegjghldhppaaTotals.lean).
  GIVEN WITH THE SEED: the statements are not yours to turn. If you find one false, say at which input.
  Laid BY PROGRAM, IN A SANDBOX (cutbox-rows.mjs): the forced cells as the released guide's own fill.sh prints them over the translation 09141d0a7a68b13d… (all of the seat's roots in one cut). By AI agents, Wed Nov 11 2026. No macro, syntax, notation, axiom, sorry.
-/
import Derived.Test.YtgiegjghldhppaaChecked
import GoSem.Claim
import GoSem.ClaimJoined
import GoSem.ClaimMapViews
import Derived.JoinedTies
import Derived.KernelRfl
namespace Go.Proofs.Ytgiegjghldhppaa
/- THE CELL 'sum', in the pinned program and in every row, IS THE sha256 OF THE DUMP (.gsa) THAT YtgiegjghldhppaaProg.lean LOADS. Nothing in Lean hashes anything: it is a label: what it is worth is what the hold of that sum in a sandbox is worth. -/
noncomputable def Try.pinned : Pinned := { name := "ytgiegjghldhppaa", sum := "09141d0a7a68b13d33e945084ad441f3eb2b24cfe4e4a72e7acca37604c5067e", checked := Try.checked }
namespace Rows
def none {H : Type} : Left H := { results := [], args := [] }

/-- 'waferlaw04.TreeSames': WHATEVER THE INPUT: true; the input reads as it did. -/
def treeSamesSpec : ChangeSpec := { name := "treeSames", fn := fun _ => fun
  | [d1, d2, d3, d4] => { results := [.lit (.bool true)], args := [d1, d2, d3, d4] }
  | _ => none }
def treeSamesRow : OpenClaim := { program := "ytgiegjghldhppaa", sum := "09141d0a7a68b13d33e945084ad441f3eb2b24cfe4e4a72e7acca37604c5067e", func := "wafer/waferlaw04.TreeSames", spec := "treeSames", unfollowed := true, recurses := true, loops := true, apart := false }
def TreeSamesSaid : Prop := treeSamesRow.holds Try.pinned (OpenSpec.ofChange treeSamesSpec)

/-- ITS FALSE NEIGHBOUR: 'it returns false'. Refute it at one input. -/
def treeSamesWrong : ChangeSpec := { name := "treeSames", fn := fun _ => fun
  | [d1, d2, d3, d4] => { results := [.lit (.bool false)], args := [d1, d2, d3, d4] }
  | _ => none }
def TreeSamesWrongFalsely : Prop := treeSamesRow.holds Try.pinned (OpenSpec.ofChange treeSamesWrong)

/-- 'waferlaw04.TreeSameMods': WHATEVER THE INPUT: true; the input reads as it did. -/
def treeSameModsSpec : ChangeSpec := { name := "treeSameMods", fn := fun _ => fun
  | [d1, d2, d3, d4] => { results := [.lit (.bool true)], args := [d1, d2, d3, d4] }
  | _ => none }
def treeSameModsRow : OpenClaim := { program := "ytgiegjghldhppaa", sum := "09141d0a7a68b13d33e945084ad441f3eb2b24cfe4e4a72e7acca37604c5067e", func := "wafer/waferlaw04.TreeSameMods", spec := "treeSameMods", unfollowed := true, recurses := true, loops := true, apart := false }
def TreeSameModsSaid : Prop := treeSameModsRow.holds Try.pinned (OpenSpec.ofChange treeSameModsSpec)

/-- ITS FALSE NEIGHBOUR: 'it returns false'. Refute it at one input. -/
def treeSameModsWrong : ChangeSpec := { name := "treeSameMods", fn := fun _ => fun
  | [d1, d2, d3, d4] => { results := [.lit (.bool false)], args := [d1, d2, d3, d4] }
  | _ => none }
def TreeSameModsWrongFalsely : Prop := treeSameModsRow.holds Try.pinned (OpenSpec.ofChange treeSameModsWrong)

/-- 'waferlaw04.TreeSameTys': WHATEVER THE INPUT: true; the input reads as it did. -/
def treeSameTysSpec : ChangeSpec := { name := "treeSameTys", fn := fun _ => fun
  | [d1, d2, d3, d4] => { results := [.lit (.bool true)], args := [d1, d2, d3, d4] }
  | _ => none }
def treeSameTysRow : OpenClaim := { program := "ytgiegjghldhppaa", sum := "09141d0a7a68b13d33e945084ad441f3eb2b24cfe4e4a72e7acca37604c5067e", func := "wafer/waferlaw04.TreeSameTys", spec := "treeSameTys", unfollowed := true, recurses := true, loops := true, apart := false }
def TreeSameTysSaid : Prop := treeSameTysRow.holds Try.pinned (OpenSpec.ofChange treeSameTysSpec)

/-- ITS FALSE NEIGHBOUR: 'it returns false'. Refute it at one input. -/
def treeSameTysWrong : ChangeSpec := { name := "treeSameTys", fn := fun _ => fun
  | [d1, d2, d3, d4] => { results := [.lit (.bool false)], args := [d1, d2, d3, d4] }
  | _ => none }
def TreeSameTysWrongFalsely : Prop := treeSameTysRow.holds Try.pinned (OpenSpec.ofChange treeSameTysWrong)

/- THE SECOND FORM. 'bulk': how many values and letters a reading holds, each counted each time it is reached (what is shared counts as often as it is met; a slice's spare places count too). A statement '..UptoSaid' is the law's where the arguments, and the package variables that the reading takes, are together of bulk at most 1048576: NARROWER than '..Said'. Prove '..Said' where nothing that the law and all that it calls make is longer than what came in: it says more and counts as full. Else prove '..UptoSaid'. A law counts once. -/
mutual
def uptoBulk {H : Type} : DataW H → Nat
  | .lit (.string bytes) => bytes.length + 1
  | .lit _ => 1
  | .nil => 1
  | .ptr d => uptoBulk d + 1
  | .slice elems spare => uptoBulkAll elems + uptoBulkAll spare + 1
  | .agg parts => uptoBulkAll parts + 1
  | .iface _ d => uptoBulk d + 1
  | .map entries => uptoBulkEntries entries + 1
  | .held _ => 1
def uptoBulkAll {H : Type} : List (DataW H) → Nat
  | [] => 0
  | d :: r => uptoBulk d + uptoBulkAll r
def uptoBulkEntries {H : Type} : List (Lit × DataW H) → Nat
  | [] => 0
  | x :: r => uptoBulkEntry x + uptoBulkEntries r
def uptoBulkEntry {H : Type} : Lit × DataW H → Nat
  | (.string bytes, d) => bytes.length + uptoBulk d + 1
  | (_, d) => uptoBulk d + 1
 end
def uptoSmall : (H : Type) → List (DataW H) → Bool := fun _ ds => decide (uptoBulkAll ds ≤ 1048576)
def OpenSpec.upto (s : _root_.Go.ChangeSpec) : _root_.Go.OpenSpec := { _root_.Go.OpenSpec.ofChange s with cond := some uptoSmall }

/-- 'waferlaw04.TreeSames', WHERE WHAT IT READS IS OF BULK AT MOST 1048576: true; the input reads as it did. -/
def treeSamesUptoRow : OpenClaim := { program := "ytgiegjghldhppaa", sum := "09141d0a7a68b13d33e945084ad441f3eb2b24cfe4e4a72e7acca37604c5067e", func := "wafer/waferlaw04.TreeSames", spec := "treeSames", unfollowed := true, recurses := true, loops := true, apart := false, narrowed := true }
def TreeSamesUptoSaid : Prop := treeSamesUptoRow.holds Try.pinned (OpenSpec.upto treeSamesSpec)

/-- 'waferlaw04.TreeSameMods', WHERE WHAT IT READS IS OF BULK AT MOST 1048576: true; the input reads as it did. -/
def treeSameModsUptoRow : OpenClaim := { program := "ytgiegjghldhppaa", sum := "09141d0a7a68b13d33e945084ad441f3eb2b24cfe4e4a72e7acca37604c5067e", func := "wafer/waferlaw04.TreeSameMods", spec := "treeSameMods", unfollowed := true, recurses := true, loops := true, apart := false, narrowed := true }
def TreeSameModsUptoSaid : Prop := treeSameModsUptoRow.holds Try.pinned (OpenSpec.upto treeSameModsSpec)

/-- 'waferlaw04.TreeSameTys', WHERE WHAT IT READS IS OF BULK AT MOST 1048576: true; the input reads as it did. -/
def treeSameTysUptoRow : OpenClaim := { program := "ytgiegjghldhppaa", sum := "09141d0a7a68b13d33e945084ad441f3eb2b24cfe4e4a72e7acca37604c5067e", func := "wafer/waferlaw04.TreeSameTys", spec := "treeSameTys", unfollowed := true, recurses := true, loops := true, apart := false, narrowed := true }
def TreeSameTysUptoSaid : Prop := treeSameTysUptoRow.holds Try.pinned (OpenSpec.upto treeSameTysSpec)

end Rows
end Go.Proofs.Ytgiegjghldhppaa
