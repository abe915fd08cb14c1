/- The model's GridMirror. -/
import Derived.Test.YtekekbepobafdaaSpecB
namespace Go.Proofs.Ytekekbepobafdaa
open Go.RowKit
set_option linter.unusedVariables false

end Go.Proofs.Ytekekbepobafdaa
