/- Profiles of the model: the functions. -/
import Derived.Test.YtmfdflkpbejpoaaPrT
namespace Go.Proofs.Ytmfdflkpbejpoaa
open Go.RowKit
set_option linter.unusedVariables false

end Go.Proofs.Ytmfdflkpbejpoaa
