/- The exact law of LevelShore, for every grid and level. -/
import Derived.Test.YtdjlobppnhokoaaLawLvShore
import Derived.Test.YtdjlobppnhokoaaLvS
import Derived.Test.YtdjlobppnhokoaaLvI2
namespace Go.Proofs.Ytdjlobppnhokoaa
open Go.RowKit
set_option linter.unusedVariables false

theorem all_FnExactLevelShore (v : Value) (g : G) (lv : Int) (w : World) (hv : RdM 0 w.heap.size w v g) (_ : -9223372036854775808 ≤ lv ∧ lv ≤ 9223372036854775807) :
    Calls Try.prog 8 #[v, .int .i64 lv] w (LawPost w) :=
  law_FnExactLevelShore v g lv w (g.shV lv) hv (fun u W lo hi hu hh => specLevelShore_any u lo hi g lv W hu hh) (fun u W lo hi hu hh => implLevelShore_any u lo hi g lv W hu hh)

end Go.Proofs.Ytdjlobppnhokoaa
