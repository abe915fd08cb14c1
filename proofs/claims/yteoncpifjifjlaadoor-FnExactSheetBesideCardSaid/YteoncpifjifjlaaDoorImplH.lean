/- The program's GridRaise. -/
import Derived.Test.YteoncpifjifjlaaDoorSpecF
namespace Go.Proofs.YteoncpifjifjlaaDoor
open Go.RowKit
set_option linter.unusedVariables false

def RgPost (g : G) (k : Int) (w : World) (e : Ending) (w' : World) : Prop := (g.RaiseOk k → GPost true (raiseG g k) w e w') ∧ (¬ g.RaiseOk k → GPost false G0 w e w')

end Go.Proofs.YteoncpifjifjlaaDoor
