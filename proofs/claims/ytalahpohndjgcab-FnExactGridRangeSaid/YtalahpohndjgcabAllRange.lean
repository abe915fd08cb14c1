/- The exact law of GridRange, for every grid. -/
import Derived.Test.YtalahpohndjgcabLawRange
namespace Go.Proofs.Ytalahpohndjgcab
open Go.RowKit
set_option linter.unusedVariables false

theorem all_FnExactGridRange (v : Value) (g : G) (w : World) (hv : RdM 0 w.heap.size w v g) :
    Calls Try.prog 13 #[v] w (LawPost w) := by
  by_cases h : g.Valid
  · exact law_FnExactGridRange v g w _ _ true hv (fun u W lo hi hu hh => specGridRange_yes u lo hi g W hu h) (fun u W lo hi hu hh => implGridRange_yes u lo hi g W hu hh h)
  · exact law_FnExactGridRange v g w 0 0 false hv (fun u W lo hi hu hh => specGridRange_no u lo hi g W hu h) (fun u W lo hi hu hh => implGridRange_no u lo hi g W hu hh h)

end Go.Proofs.Ytalahpohndjgcab
