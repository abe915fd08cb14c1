/- The exact law of GridTurn, for every grid. -/
import Derived.Test.YtalahpohndjgcabLawTurn
namespace Go.Proofs.Ytalahpohndjgcab
open Go.RowKit
set_option linter.unusedVariables false

theorem all_FnExactGridTurn (v : Value) (g : G) (w : World) (hv : RdM 0 w.heap.size w v g) :
    Calls Try.prog 6 #[v] w (LawPost w) := by
  by_cases h : g.Valid
  · exact law_FnExactGridTurn v g w true (turnG g) hv (fun u W lo hi hu hh => specGridTurn_yes u lo hi g W hu hh h) (fun u W lo hi hu hh => implGridTurn_yes u lo hi g W hu hh h)
      (by have := h.2.1; simp only [turnG]; omega) (fun r _ => by have := h.1; simp only [turnG]; omega)
  · exact law_FnExactGridTurn v g w false G0 hv (fun u W lo hi hu hh => specGridTurn_no u lo hi g W hu hh h) (fun u W lo hi hu hh => implGridTurn_no u lo hi g W hu hh h)
      (by simp [G0]) (fun r hr => by simp [G0] at hr)

end Go.Proofs.Ytalahpohndjgcab
