/- Profiles of the program: the eye, the hull, the best point. -/
import Derived.Test.YtjepmnngphlgoaaPrV
namespace Go.Proofs.Ytjepmnngphlgoaa
open Go.RowKit
set_option linter.unusedVariables false

end Go.Proofs.Ytjepmnngphlgoaa
