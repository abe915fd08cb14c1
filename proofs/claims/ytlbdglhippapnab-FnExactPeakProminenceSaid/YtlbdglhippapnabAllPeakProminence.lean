/- The exact law of PeakProminence, for every grid and index. -/
import Derived.Test.YtlbdglhippapnabLawPeakProminence
import Derived.Test.YtlbdglhippapnabKeyI
namespace Go.Proofs.Ytlbdglhippapnab
open Go.RowKit
set_option linter.unusedVariables false

theorem all_FnExactPeakProminence (v : Value) (g : G) (i : Int) (w : World) (hv : RdM 0 w.heap.size w v g) (_ : -9223372036854775808 ≤ i ∧ i ≤ 9223372036854775807) :
    Calls Try.prog 7 #[v, .int .i64 i] w (LawPost w) :=
  law_FnExactPeakProminence v g i w (g.prV i) hv (fun u W lo hi hu hh => specPeakProminence_any u lo hi g i W hu hh) (fun u W lo hi hu hh => implPeakProminence_any u lo hi g i W hu hh)

end Go.Proofs.Ytlbdglhippapnab
