/- The length of a run, in the program. -/
import Derived.Test.YtplfphpnpjjinabWRun
namespace Go.Proofs.Ytplfphpnpjjinab
open Go.RowKit Go.Shelf
set_option linter.unusedVariables false
attribute [local go_sem] Oper.semAt_some

end Go.Proofs.Ytplfphpnpjjinab
