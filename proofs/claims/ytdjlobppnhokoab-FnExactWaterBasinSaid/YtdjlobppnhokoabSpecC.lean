/- The model's GridMirror. -/
import Derived.Test.YtdjlobppnhokoabSpecB
namespace Go.Proofs.Ytdjlobppnhokoab
open Go.RowKit
set_option linter.unusedVariables false

end Go.Proofs.Ytdjlobppnhokoab
