/- The program's GridBelow. -/
import Derived.Test.YteoncpifjifjlaaImplK
namespace Go.Proofs.Yteoncpifjifjlaa
open Go.RowKit
set_option linter.unusedVariables false

end Go.Proofs.Yteoncpifjifjlaa
