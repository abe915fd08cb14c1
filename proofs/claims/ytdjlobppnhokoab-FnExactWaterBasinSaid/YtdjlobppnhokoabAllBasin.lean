/- The exact law of WaterBasin, for every grid and index. -/
import Derived.Test.YtdjlobppnhokoabLawBasin
import Derived.Test.YtdjlobppnhokoabCnt
namespace Go.Proofs.Ytdjlobppnhokoab
open Go.RowKit
set_option linter.unusedVariables false

theorem all_FnExactWaterBasin (v : Value) (g : G) (s : Int) (w : World) (hv : RdM 0 w.heap.size w v g) (_ : -9223372036854775808 ≤ s ∧ s ≤ 9223372036854775807) :
    Calls Try.prog 4 #[v, .int .i64 s] w (LawPost w) :=
  law_FnExactWaterBasin v g s w (g.bnV s) hv (fun u W lo hi hu hh => specWaterBasin_any u lo hi g s W hu hh) (fun u W lo hi hu hh => implWaterBasin_any u lo hi g s W hu hh)

end Go.Proofs.Ytdjlobppnhokoab
