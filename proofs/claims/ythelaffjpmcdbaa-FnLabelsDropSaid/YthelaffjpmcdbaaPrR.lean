/- Profiles copied and turned over in place, in the program. -/
import Derived.Test.YthelaffjpmcdbaaPrI
import Derived.Test.YthelaffjpmcdbaaNumK
import Derived.Test.YthelaffjpmcdbaaPrQ
import Derived.Deep.AppendLies
import Derived.Deep.RegionLaw
import Derived.BigRegion
import Derived.BigQuiet
namespace Go.Proofs.Ythelaffjpmcdbaa
open Go.RowKit
set_option linter.unusedVariables false

/-- the first k from both ends are exchanged -/
def revF (F : Nat → Value) (Z : Nat → Int) (n k : Nat) (x : Nat) : Value := if x < n then (if x < k ∨ n ≤ x + k then .int .i64 (Z (n - 1 - x)) else .int .i64 (Z x)) else F x

def RevPost (b N n : Nat) (F : Nat → Value) (Z : Nat → Int) (w : World) (e : Ending) (w' : World) : Prop :=
  (∃ v, e = .returned v) ∧ w'.rowIs b 3 N (fun x => if x < n then .int .i64 (Z (n - 1 - x)) else F x) ∧ Chg b (b + 1) w w' ∧ w'.heap.size = w.heap.size

end Go.Proofs.Ythelaffjpmcdbaa
