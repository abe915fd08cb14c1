/- The program's GridRaise. -/
import Derived.Test.YtbjhaggncpkdhaaDoorSpecF
namespace Go.Proofs.YtbjhaggncpkdhaaDoor
open Go.RowKit
set_option linter.unusedVariables false

end Go.Proofs.YtbjhaggncpkdhaaDoor
