/- The exact law of LevelGreatest, for every grid. -/
import Derived.Test.YtdjlobppnhokoaaLawLvGreatest
import Derived.Test.YtdjlobppnhokoaaLvS2
import Derived.Test.YtdjlobppnhokoaaLvI
namespace Go.Proofs.Ytdjlobppnhokoaa
open Go.RowKit
set_option linter.unusedVariables false

open Classical in
noncomputable def G.gtV (g : G) : Int := if g.Valid then mx g.flat (g.n * g.len 0) else -1
theorem G.gtV_is (g : G) : (g.Valid ∧ g.gtV = mx g.flat (g.n * g.len 0)) ∨ (¬ g.Valid ∧ g.gtV = -1) := by
  unfold G.gtV
  by_cases h : g.Valid
  · exact Or.inl ⟨h, if_pos h⟩
  · exact Or.inr ⟨h, if_neg h⟩

theorem all_FnExactLevelGreatest (v : Value) (g : G) (w : World) (hv : RdM 0 w.heap.size w v g) :
    Calls Try.prog 12 #[v] w (LawPost w) :=
  law_FnExactLevelGreatest v g w g.gtV hv (fun u W lo hi hu hh => specLevelGreatest_any u lo hi g W hu g.gtV g.gtV_is) (fun u W lo hi hu hh => implLevelGreatest_any u lo hi g W hu hh g.gtV g.gtV_is)

end Go.Proofs.Ytdjlobppnhokoaa
