/- Profiles of the model: the functions. -/
import Derived.Test.YtjepmnngphlgoaaPrT
namespace Go.Proofs.Ytjepmnngphlgoaa
open Go.RowKit
set_option linter.unusedVariables false

end Go.Proofs.Ytjepmnngphlgoaa
