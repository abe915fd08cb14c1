/- The comparisons of the laws of the promises. -/
import Derived.Test.YteoncpifjifjlaaDoorM1
namespace Go.Proofs.YteoncpifjifjlaaDoor
open Go.RowKit
set_option linter.unusedVariables false

end Go.Proofs.YteoncpifjifjlaaDoor
