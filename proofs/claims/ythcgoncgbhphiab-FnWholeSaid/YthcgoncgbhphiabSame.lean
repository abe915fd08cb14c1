/- The comparisons of the laws of the promises. -/
import Derived.Test.YthcgoncgbhphiabM1
namespace Go.Proofs.Ythcgoncgbhphiab
open Go.RowKit
set_option linter.unusedVariables false

end Go.Proofs.Ythcgoncgbhphiab
