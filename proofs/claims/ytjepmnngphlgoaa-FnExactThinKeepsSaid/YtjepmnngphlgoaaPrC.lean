/- The functions' contracts where a list is a profile, and where it is none. -/
import Derived.Test.YtjepmnngphlgoaaPrTi
import Derived.Test.YtjepmnngphlgoaaPrZ
import Derived.Test.YtjepmnngphlgoaaPrY
import Derived.Test.YtjepmnngphlgoaaPrX
import Derived.Test.YtjepmnngphlgoaaSame
import Derived.Test.YtjepmnngphlgoaaDrawQ
namespace Go.Proofs.Ytjepmnngphlgoaa
open Go.RowKit
set_option linter.unusedVariables false

end Go.Proofs.Ytjepmnngphlgoaa
