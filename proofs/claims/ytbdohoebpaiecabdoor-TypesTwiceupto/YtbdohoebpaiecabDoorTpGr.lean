/- The document's grown. -/
import Derived.Test.YtbdohoebpaiecabDoorTpG
import Derived.Test.YtbdohoebpaiecabDoorTpU
namespace Go.Proofs.YtbdohoebpaiecabDoor
open Go.RowKit
set_option linter.unusedVariables false
set_option linter.unusedSimpArgs false



end Go.Proofs.YtbdohoebpaiecabDoor