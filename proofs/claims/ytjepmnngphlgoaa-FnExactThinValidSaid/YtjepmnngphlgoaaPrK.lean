/- Who sees whom, the points seen, pairs, the hull and the best point, in the program. -/
import Derived.Test.YtjepmnngphlgoaaPrJ
namespace Go.Proofs.Ytjepmnngphlgoaa
open Go.RowKit
set_option linter.unusedVariables false

end Go.Proofs.Ytjepmnngphlgoaa
