/- The length of a run, in the program. -/
import Derived.Test.YtepnhamkadkipaaWRun
namespace Go.Proofs.Ytepnhamkadkipaa
open Go.RowKit Go.Shelf
set_option linter.unusedVariables false
attribute [local go_sem] Oper.semAt_some

end Go.Proofs.Ytepnhamkadkipaa
