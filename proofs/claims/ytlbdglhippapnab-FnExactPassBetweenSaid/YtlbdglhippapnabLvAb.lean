/- What the exact laws of levels stand on. -/
import Derived.Test.YtlbdglhippapnabM1
import Derived.Test.YtlbdglhippapnabLvM
import Derived.Test.YtlbdglhippapnabM2
namespace Go.Proofs.Ytlbdglhippapnab
end Go.Proofs.Ytlbdglhippapnab
