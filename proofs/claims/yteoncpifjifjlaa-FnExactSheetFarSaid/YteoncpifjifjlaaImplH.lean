/- The program's GridRaise. -/
import Derived.Test.YteoncpifjifjlaaSpecF
namespace Go.Proofs.Yteoncpifjifjlaa
open Go.RowKit
set_option linter.unusedVariables false

end Go.Proofs.Yteoncpifjifjlaa
