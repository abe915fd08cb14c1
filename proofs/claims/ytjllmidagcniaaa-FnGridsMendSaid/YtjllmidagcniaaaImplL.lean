/- The program's GridBelow. -/
import Derived.Test.YtjllmidagcniaaaImplK
namespace Go.Proofs.Ytjllmidagcniaaa
open Go.RowKit
set_option linter.unusedVariables false

def BwPost (a b : G) (w : World) (e : Ending) (w' : World) : Prop := (BelowOk a b → GPost true (belowG a b) w e w') ∧ (¬ BelowOk a b → GPost false G0 w e w')

end Go.Proofs.Ytjllmidagcniaaa
