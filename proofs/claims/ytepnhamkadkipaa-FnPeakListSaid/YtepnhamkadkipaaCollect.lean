/- slices.Collect over an iterator of the program that gives indexes. -/
import Derived.Test.YtepnhamkadkipaaWLen
import Derived.Test.YtepnhamkadkipaaLongS
import Derived.Maps.AppendAt
import Derived.RangeFuncWrites
namespace Go.Proofs.Ytepnhamkadkipaa
open Go.RowKit Go.Shelf
set_option linter.unusedVariables false
attribute [local go_sem] Oper.semAt_some

/-- what a collected list leaves -/
def CoPost {M : Nat} (L : List (Ix M)) (w : World) (e : Ending) (w' : World) : Prop :=
  ∃ v, e = .returned v ∧ Lists w.heap.size w' v L ∧ Below w.heap.size w w'

end Go.Proofs.Ytepnhamkadkipaa
