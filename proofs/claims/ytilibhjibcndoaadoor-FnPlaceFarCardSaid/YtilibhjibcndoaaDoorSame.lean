/- The comparisons of the laws of the promises. -/
import Derived.Test.YtilibhjibcndoaaDoorM1
namespace Go.Proofs.YtilibhjibcndoaaDoor
open Go.RowKit
set_option linter.unusedVariables false

end Go.Proofs.YtilibhjibcndoaaDoor
