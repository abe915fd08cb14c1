/- The comparisons of the laws of the promises. -/
import Derived.Test.YtjepmnngphlgoaaM1
namespace Go.Proofs.Ytjepmnngphlgoaa
open Go.RowKit
set_option linter.unusedVariables false

end Go.Proofs.Ytjepmnngphlgoaa
