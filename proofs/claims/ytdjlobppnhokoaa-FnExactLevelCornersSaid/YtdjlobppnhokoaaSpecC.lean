/- The model's GridMirror. -/
import Derived.Test.YtdjlobppnhokoaaSpecB
namespace Go.Proofs.Ytdjlobppnhokoaa
open Go.RowKit
set_option linter.unusedVariables false

end Go.Proofs.Ytdjlobppnhokoaa
