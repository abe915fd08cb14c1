/- The exact law of WaterLongest, for every grid. -/
import Derived.Test.YtekekbepobafdaaLawLongest
namespace Go.Proofs.Ytekekbepobafdaa
open Go.RowKit
set_option linter.unusedVariables false

theorem all_FnExactWaterLongest (v : Value) (g : G) (w : World) (hv : RdM 0 w.heap.size w v g) :
    Calls Try.prog 9 #[v] w (LawPost w) :=
  law_FnExactWaterLongest v g w g.lgV hv (fun u W lo hi hu hh => specWaterLongest_any u lo hi g W hu hh) (fun u W lo hi hu hh => implWaterLongest_any u lo hi g W hu hh)

end Go.Proofs.Ytekekbepobafdaa
