/- The exact law of GridMirror, for every grid. -/
import Derived.Test.YtalahpohndjgcabLawMirror
namespace Go.Proofs.Ytalahpohndjgcab
open Go.RowKit
set_option linter.unusedVariables false

theorem all_FnExactGridMirror (v : Value) (g : G) (w : World) (hv : RdM 0 w.heap.size w v g) :
    Calls Try.prog 7 #[v] w (LawPost w) := by
  by_cases h : g.Valid
  · exact law_FnExactGridMirror v g w true (mirrorG g) hv (fun u W lo hi hu hh => specGridMirror_yes u lo hi g W hu hh h) (fun u W lo hi hu hh => implGridMirror_yes u lo hi g W hu hh h)
      (by have := h.1; simp only [mirrorG]; omega) (fun r _ => by have := h.2.1; simp only [mirrorG]; omega)
  · exact law_FnExactGridMirror v g w false G0 hv (fun u W lo hi hu hh => specGridMirror_no u lo hi g W hu hh h) (fun u W lo hi hu hh => implGridMirror_no u lo hi g W hu hh h)
      (by simp [G0]) (fun r hr => by simp [G0] at hr)

end Go.Proofs.Ytalahpohndjgcab
