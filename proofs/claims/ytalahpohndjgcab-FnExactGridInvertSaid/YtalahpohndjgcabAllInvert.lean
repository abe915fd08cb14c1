/- The exact law of GridInvert, for every grid. -/
import Derived.Test.YtalahpohndjgcabLawInvert
namespace Go.Proofs.Ytalahpohndjgcab
open Go.RowKit
set_option linter.unusedVariables false

theorem all_FnExactGridInvert (v : Value) (g : G) (w : World) (hv : RdM 0 w.heap.size w v g) :
    Calls Try.prog 9 #[v] w (LawPost w) := by
  by_cases h : g.Valid
  · exact law_FnExactGridInvert v g w true (invertG g) hv (fun u W lo hi hu hh => specGridInvert_yes u lo hi g W hu hh h) (fun u W lo hi hu hh => implGridInvert_yes u lo hi g W hu hh h)
      (by have := h.1; simp only [invertG]; omega) (fun r _ => by have := h.2.1; simp only [invertG]; omega)
  · exact law_FnExactGridInvert v g w false G0 hv (fun u W lo hi hu hh => specGridInvert_no u lo hi g W hu hh h) (fun u W lo hi hu hh => implGridInvert_no u lo hi g W hu hh h)
      (by simp [G0]) (fun r hr => by simp [G0] at hr)

end Go.Proofs.Ytalahpohndjgcab
