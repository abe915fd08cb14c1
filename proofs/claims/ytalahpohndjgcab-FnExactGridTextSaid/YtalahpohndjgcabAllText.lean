/- The exact law of GridText, for every grid. -/
import Derived.Test.YtalahpohndjgcabLawText
namespace Go.Proofs.Ytalahpohndjgcab
open Go.RowKit
set_option linter.unusedVariables false

theorem all_FnExactGridText (v : Value) (g : G) (w : World) (hv : RdM 0 w.heap.size w v g) :
    Calls Try.prog 14 #[v] w (LawPost w) :=
  law_FnExactGridText v g w (txtOf g) hv (fun u W lo hi hu hh => specGridText_any u lo hi g W hu hh) (fun u W lo hi hu hh => implGridText_any u lo hi g W hu hh)

end Go.Proofs.Ytalahpohndjgcab
