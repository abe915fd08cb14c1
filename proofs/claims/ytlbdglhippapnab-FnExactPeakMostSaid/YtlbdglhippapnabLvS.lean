/- Land, shore, sides, corners and their sum in the model, by contract. -/
import Derived.Test.YtlbdglhippapnabWSpec
import Derived.Test.YtlbdglhippapnabLongS
import Derived.Test.YtlbdglhippapnabLvM
import Derived.Test.YtlbdglhippapnabRange
import Derived.Lib.MinMax
namespace Go.Proofs.Ytlbdglhippapnab
open Go.RowKit
set_option linter.unusedVariables false

noncomputable def G.lvB (g : G) (lv : Int) : Bool := @decide (g.LvOk lv) (Classical.propDecidable _)
theorem G.lvB_yes {g : G} {lv : Int} (h : g.LvOk lv) : g.lvB lv = true := by simp [G.lvB, h]
theorem G.lvB_no {g : G} {lv : Int} (h : ¬ g.LvOk lv) : g.lvB lv = false := by simp [G.lvB, h]

end Go.Proofs.Ytlbdglhippapnab
