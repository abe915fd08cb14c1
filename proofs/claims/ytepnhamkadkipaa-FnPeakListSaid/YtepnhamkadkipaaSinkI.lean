/- The iterator of the sinks, in the program. -/
import Derived.Test.YtepnhamkadkipaaWRun
import Derived.Test.YtepnhamkadkipaaSinkM
namespace Go.Proofs.Ytepnhamkadkipaa
open Go.RowKit Go.Shelf
set_option linter.unusedVariables false

end Go.Proofs.Ytepnhamkadkipaa
