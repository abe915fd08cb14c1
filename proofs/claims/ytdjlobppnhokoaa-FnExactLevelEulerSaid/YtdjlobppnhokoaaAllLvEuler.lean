/- The exact law of LevelEuler, for every grid and level. -/
import Derived.Test.YtdjlobppnhokoaaLawLvEuler
import Derived.Test.YtdjlobppnhokoaaLvS3
import Derived.Test.YtdjlobppnhokoaaLvI5
namespace Go.Proofs.Ytdjlobppnhokoaa
open Go.RowKit
set_option linter.unusedVariables false

theorem all_FnExactLevelEuler (v : Value) (g : G) (lv : Int) (w : World) (hv : RdM 0 w.heap.size w v g) (_ : -9223372036854775808 ≤ lv ∧ lv ≤ 9223372036854775807) :
    Calls Try.prog 11 #[v, .int .i64 lv] w (LawPost w) :=
  law_FnExactLevelEuler v g lv w (g.euV lv) hv (fun u W lo hi hu hh => specLevelEuler_any u lo hi g lv W hu hh) (fun u W lo hi hu hh => implLevelEuler_any u lo hi g lv W hu hh)

end Go.Proofs.Ytdjlobppnhokoaa
