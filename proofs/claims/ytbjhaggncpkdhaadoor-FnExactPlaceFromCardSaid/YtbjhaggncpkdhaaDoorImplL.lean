/- The program's GridBelow. -/
import Derived.Test.YtbjhaggncpkdhaaDoorImplK
namespace Go.Proofs.YtbjhaggncpkdhaaDoor
open Go.RowKit
set_option linter.unusedVariables false

end Go.Proofs.YtbjhaggncpkdhaaDoor
