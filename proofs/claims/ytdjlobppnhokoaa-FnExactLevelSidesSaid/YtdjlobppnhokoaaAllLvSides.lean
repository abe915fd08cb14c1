/- The exact law of LevelSides, for every grid and level. -/
import Derived.Test.YtdjlobppnhokoaaLawLvSides
import Derived.Test.YtdjlobppnhokoaaLvS2
import Derived.Test.YtdjlobppnhokoaaLvI4b
namespace Go.Proofs.Ytdjlobppnhokoaa
open Go.RowKit
set_option linter.unusedVariables false

theorem all_FnExactLevelSides (v : Value) (g : G) (lv : Int) (w : World) (hv : RdM 0 w.heap.size w v g) (_ : -9223372036854775808 ≤ lv ∧ lv ≤ 9223372036854775807) :
    Calls Try.prog 10 #[v, .int .i64 lv] w (LawPost w) :=
  law_FnExactLevelSides v g lv w (g.sdV lv) hv (fun u W lo hi hu hh => specLevelSides_any u lo hi g lv W hu hh) (fun u W lo hi hu hh => implLevelSides_any u lo hi g lv W hu hh)

end Go.Proofs.Ytdjlobppnhokoaa
