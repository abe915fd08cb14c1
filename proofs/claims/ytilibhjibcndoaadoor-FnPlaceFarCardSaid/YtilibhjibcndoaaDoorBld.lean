/- strings.Builder's WriteByte and String at this program. -/
import Derived.Shelf.Strings.Builder1
import Derived.Test.YtilibhjibcndoaaDoorImplL
namespace Go.Proofs.YtilibhjibcndoaaDoor
open Go.RowKit
set_option linter.unusedVariables false

end Go.Proofs.YtilibhjibcndoaaDoor
