/- The document's grown. -/
import Derived.Test.YtadmiefnblgpdaaTpG
import Derived.Test.YtadmiefnblgpdaaTpU
namespace Go.Proofs.Ytadmiefnblgpdaa
open Go.RowKit
set_option linter.unusedVariables false
set_option linter.unusedSimpArgs false



end Go.Proofs.Ytadmiefnblgpdaa