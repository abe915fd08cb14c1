/- WaterBasins of the program. -/
import Derived.Test.YthcgoncgbhphiabBasI
namespace Go.Proofs.Ythcgoncgbhphiab
open Go.RowKit
set_option linter.unusedVariables false

end Go.Proofs.Ythcgoncgbhphiab
