/- Profiles of the model: the eye, the hull, the best point. -/
import Derived.Test.YtmfdflkpbejpoaaPrU
namespace Go.Proofs.Ytmfdflkpbejpoaa
open Go.RowKit
set_option linter.unusedVariables false

end Go.Proofs.Ytmfdflkpbejpoaa
