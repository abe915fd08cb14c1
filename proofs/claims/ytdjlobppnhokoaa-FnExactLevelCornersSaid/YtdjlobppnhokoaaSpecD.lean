/- The model's copy of a grid, a store into it, and what is built on both. -/
import Derived.Test.YtdjlobppnhokoaaSpecC
import Derived.StillTailTactics
namespace Go.Proofs.Ytdjlobppnhokoaa
open Go.RowKit
set_option linter.unusedVariables false

/-- what the copy leaves -/
def CpPost (g : G) (w : World) (e : Ending) (w' : World) : Prop := ∃ v B RV, e = .returned v ∧ Gr w w' v g.n B RV g

end Go.Proofs.Ytdjlobppnhokoaa
