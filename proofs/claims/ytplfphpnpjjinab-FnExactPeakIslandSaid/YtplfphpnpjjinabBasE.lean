/- WaterBasins of the program. -/
import Derived.Test.YtplfphpnpjjinabBasI
namespace Go.Proofs.Ytplfphpnpjjinab
open Go.RowKit
set_option linter.unusedVariables false

end Go.Proofs.Ytplfphpnpjjinab
