/- The exact law of PeakKey, for every grid and index. -/
import Derived.Test.YtlbdglhippapnabLawPeakKey
import Derived.Test.YtlbdglhippapnabKeyI
namespace Go.Proofs.Ytlbdglhippapnab
open Go.RowKit
set_option linter.unusedVariables false

theorem all_FnExactPeakKey (v : Value) (g : G) (i : Int) (w : World) (hv : RdM 0 w.heap.size w v g) (_ : -9223372036854775808 ≤ i ∧ i ≤ 9223372036854775807) :
    Calls Try.prog 6 #[v, .int .i64 i] w (LawPost w) :=
  law_FnExactPeakKey v g i w (g.kyV i) hv (fun u W lo hi hu hh => specPeakKey_any u lo hi g i W hu hh) (fun u W lo hi hu hh => implPeakKey_any u lo hi g i W hu hh)

end Go.Proofs.Ytlbdglhippapnab
