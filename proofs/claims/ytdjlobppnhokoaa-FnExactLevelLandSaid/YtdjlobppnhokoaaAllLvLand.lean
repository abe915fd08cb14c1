/- The exact law of LevelLand, for every grid and level. -/
import Derived.Test.YtdjlobppnhokoaaLawLvLand
import Derived.Test.YtdjlobppnhokoaaLvS
import Derived.Test.YtdjlobppnhokoaaLvI
namespace Go.Proofs.Ytdjlobppnhokoaa
open Go.RowKit
set_option linter.unusedVariables false

theorem all_FnExactLevelLand (v : Value) (g : G) (lv : Int) (w : World) (hv : RdM 0 w.heap.size w v g) (_ : -9223372036854775808 ≤ lv ∧ lv ≤ 9223372036854775807) :
    Calls Try.prog 3 #[v, .int .i64 lv] w (LawPost w) :=
  law_FnExactLevelLand v g lv w (g.ldV lv) hv (fun u W lo hi hu hh => specLevelLand_any u lo hi g lv W hu hh) (fun u W lo hi hu hh => implLevelLand_any u lo hi g lv W hu hh)

end Go.Proofs.Ytdjlobppnhokoaa
