/- The exact law of WaterNext, for every grid and cell. -/
import Derived.Test.YtekekbepobafdaaLawNext
namespace Go.Proofs.Ytekekbepobafdaa
open Go.RowKit
set_option linter.unusedVariables false

theorem all_FnExactWaterNext (v : Value) (g : G) (r c : Int) (w : World) (hv : RdM 0 w.heap.size w v g) (_ : -9223372036854775808 ≤ r ∧ r ≤ 9223372036854775807) (_ : -9223372036854775808 ≤ c ∧ c ≤ 9223372036854775807) :
    Calls Try.prog 3 #[v, .int .i64 r, .int .i64 c] w (LawPost w) :=
  law_FnExactWaterNext v g r c w (g.wnV r c) hv (fun u W lo hi hu hh => specWaterNext_any u lo hi g r c W hu hh) (fun u W lo hi hu hh => implWaterNext_any u lo hi g r c W hu hh)

end Go.Proofs.Ytekekbepobafdaa
