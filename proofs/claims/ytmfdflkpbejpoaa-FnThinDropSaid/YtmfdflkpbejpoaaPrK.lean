/- Who sees whom, the points seen, pairs, the hull and the best point, in the program. -/
import Derived.Test.YtmfdflkpbejpoaaPrJ
namespace Go.Proofs.Ytmfdflkpbejpoaa
open Go.RowKit
set_option linter.unusedVariables false

end Go.Proofs.Ytmfdflkpbejpoaa
