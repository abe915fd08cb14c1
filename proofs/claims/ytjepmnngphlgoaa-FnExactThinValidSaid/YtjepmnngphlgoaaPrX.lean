/- Profiles of the model: the eye, the hull, the best point. -/
import Derived.Test.YtjepmnngphlgoaaPrU
namespace Go.Proofs.Ytjepmnngphlgoaa
open Go.RowKit
set_option linter.unusedVariables false

end Go.Proofs.Ytjepmnngphlgoaa
