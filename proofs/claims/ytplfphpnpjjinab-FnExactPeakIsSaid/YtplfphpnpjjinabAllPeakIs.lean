/- The exact law of PeakIs, for every grid and index. -/
import Derived.Test.YtplfphpnpjjinabLawPeakIs
import Derived.Test.YtplfphpnpjjinabPkS
import Derived.Test.YtplfphpnpjjinabPkI2
namespace Go.Proofs.Ytplfphpnpjjinab
open Go.RowKit
set_option linter.unusedVariables false

theorem all_FnExactPeakIs (v : Value) (g : G) (i : Int) (w : World) (hv : RdM 0 w.heap.size w v g) (_ : -9223372036854775808 ≤ i ∧ i ≤ 9223372036854775807) :
    Calls Try.prog 3 #[v, .int .i64 i] w (LawPost w) :=
  law_FnExactPeakIs v g i w (g.pkB i) hv (fun u W lo hi hu hh => specPeakIs_any u lo hi g i W hu hh) (fun u W lo hi hu hh => implPeakIs_any u lo hi g i W hu hh)

end Go.Proofs.Ytplfphpnpjjinab
