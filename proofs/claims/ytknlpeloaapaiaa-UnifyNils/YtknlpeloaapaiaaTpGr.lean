/- The document's grown. -/
import Derived.Test.YtknlpeloaapaiaaTpG
import Derived.Test.YtknlpeloaapaiaaTpU
namespace Go.Proofs.Ytknlpeloaapaiaa
open Go.RowKit
set_option linter.unusedVariables false
set_option linter.unusedSimpArgs false

end Go.Proofs.Ytknlpeloaapaiaa
