/- What the small functions on bytes come to, the program's and the document's. -/
import Derived.WalkKit
import Derived.WalkSpells
import Derived.Lib.Walk
import Derived.Lib.Strings
import Derived.Lib.Bytealg
import Derived.Deep.QuietTactic
import Derived.BigQuiet
import Derived.Test.YtfjcnncpmhfbnaaDoorProg
import Derived.Test.YtfjcnncpmhfbnaaDoorPure
namespace Go.Proofs.YtfjcnncpmhfbnaaDoor
open Go.RowKit
set_option linter.unusedVariables false







end Go.Proofs.YtfjcnncpmhfbnaaDoor