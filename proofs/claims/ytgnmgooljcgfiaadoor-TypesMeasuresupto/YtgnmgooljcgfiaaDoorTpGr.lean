/- The document's grown. -/
import Derived.Test.YtgnmgooljcgfiaaDoorTpG
import Derived.Test.YtgnmgooljcgfiaaDoorTpU
namespace Go.Proofs.YtgnmgooljcgfiaaDoor
open Go.RowKit
set_option linter.unusedVariables false
set_option linter.unusedSimpArgs false



end Go.Proofs.YtgnmgooljcgfiaaDoor