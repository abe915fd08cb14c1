/- strings.Builder's WriteByte and String at this program. -/
import Derived.Shelf.Strings.Builder1
import Derived.Test.YteoncpifjifjlaaDoorImplL
namespace Go.Proofs.YteoncpifjifjlaaDoor
open Go.RowKit
set_option linter.unusedVariables false

end Go.Proofs.YteoncpifjifjlaaDoor
