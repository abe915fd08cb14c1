/- The iterator of the sinks, in the program. -/
import Derived.Test.YtlbdglhippapnabWRun
import Derived.Test.YtlbdglhippapnabSinkM
namespace Go.Proofs.Ytlbdglhippapnab
open Go.RowKit Go.Shelf
set_option linter.unusedVariables false

end Go.Proofs.Ytlbdglhippapnab
