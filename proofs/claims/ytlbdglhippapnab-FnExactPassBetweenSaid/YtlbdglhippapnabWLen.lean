/- The length of a run, in the program. -/
import Derived.Test.YtlbdglhippapnabWRun
namespace Go.Proofs.Ytlbdglhippapnab
open Go.RowKit Go.Shelf
set_option linter.unusedVariables false
attribute [local go_sem] Oper.semAt_some

end Go.Proofs.Ytlbdglhippapnab
