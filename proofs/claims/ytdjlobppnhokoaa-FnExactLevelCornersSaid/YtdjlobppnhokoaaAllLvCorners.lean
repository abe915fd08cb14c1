/- The exact law of LevelCorners, for every grid and level. -/
import Derived.Test.YtdjlobppnhokoaaLawLvCorners
import Derived.Test.YtdjlobppnhokoaaLvS3
import Derived.Test.YtdjlobppnhokoaaLvI3b
namespace Go.Proofs.Ytdjlobppnhokoaa
open Go.RowKit
set_option linter.unusedVariables false

theorem all_FnExactLevelCorners (v : Value) (g : G) (lv : Int) (w : World) (hv : RdM 0 w.heap.size w v g) (_ : -9223372036854775808 ≤ lv ∧ lv ≤ 9223372036854775807) :
    Calls Try.prog 9 #[v, .int .i64 lv] w (LawPost w) :=
  law_FnExactLevelCorners v g lv w (g.cnV lv) hv (fun u W lo hi hu hh => specLevelCorners_any u lo hi g lv W hu hh) (fun u W lo hi hu hh => implLevelCorners_any u lo hi g lv W hu hh)

end Go.Proofs.Ytdjlobppnhokoaa
