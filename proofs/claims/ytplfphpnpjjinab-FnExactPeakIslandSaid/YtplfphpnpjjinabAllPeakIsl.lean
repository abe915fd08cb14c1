/- The exact law of PeakIsland, for every grid, level and number. -/
import Derived.Test.YtplfphpnpjjinabLawPeakIsl
import Derived.Test.YtplfphpnpjjinabIslS
import Derived.Test.YtplfphpnpjjinabIslI
namespace Go.Proofs.Ytplfphpnpjjinab
open Go.RowKit
set_option linter.unusedVariables false

theorem all_FnExactPeakIsland (v : Value) (g : G) (lv s : Int) (w : World) (hv : RdM 0 w.heap.size w v g) (_ : -9223372036854775808 ≤ lv ∧ lv ≤ 9223372036854775807) (_ : -9223372036854775808 ≤ s ∧ s ≤ 9223372036854775807) :
    Calls Try.prog 6 #[v, .int .i64 lv, .int .i64 s] w (LawPost w) :=
  law_FnExactPeakIsland v g lv s w (g.ilV lv s) hv (fun u W lo hi hu hh => specPeakIsland_any u lo hi g lv s W hu hh) (fun u W lo hi hu hh => implPeakIsland_any u lo hi g lv s W hu hh)

end Go.Proofs.Ytplfphpnpjjinab
