/- The exact law of PeakSum, for every grid. -/
import Derived.Test.YtlbdglhippapnabLawPeakSum
import Derived.Test.YtlbdglhippapnabSmI
namespace Go.Proofs.Ytlbdglhippapnab
open Go.RowKit
set_option linter.unusedVariables false

theorem all_FnExactPeakSum (v : Value) (g : G) (w : World) (hv : RdM 0 w.heap.size w v g) :
    Calls Try.prog 10 #[v] w (LawPost w) :=
  law_FnExactPeakSum v g w g.smV hv (fun u W lo hi hu hh => specPeakSum_any u lo hi g W hu hh) (fun u W lo hi hu hh => implPeakSum_any u lo hi g W hu hh)

end Go.Proofs.Ytlbdglhippapnab
