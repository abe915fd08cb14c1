/- The exact law of GridBeside, for every two grids. -/
import Derived.Test.YtalahpohndjgcabLawBeside
namespace Go.Proofs.Ytalahpohndjgcab
open Go.RowKit
set_option linter.unusedVariables false

theorem all_FnExactGridBeside (v : Value) (a : G) (u : Value) (b : G) (w : World) (hv : RdM 0 w.heap.size w v a) (hu : RdM 0 w.heap.size w u b) :
    Calls Try.prog 11 #[v, u] w (LawPost w) := by
  by_cases h : BesideOk a b
  · exact law_FnExactGridBeside v a u b w true (besideG a b) hv hu (fun x y W lo hi hx hy hh => (specGridBeside_any x y lo hi a b W hx hy hh).mono fun _ _ hp => hp.1 h) (fun x y W lo hi hx hy hh => (implGridBeside_any x y lo hi a b W hx hy hh).mono fun _ _ hp => hp.1 h)
      (by have := h.1.1; simp only [besideG]; omega) (fun r _ => by have := h.2.2.2; simp only [besideG]; omega)
  · exact law_FnExactGridBeside v a u b w false G0 hv hu (fun x y W lo hi hx hy hh => (specGridBeside_any x y lo hi a b W hx hy hh).mono fun _ _ hp => hp.2 h) (fun x y W lo hi hx hy hh => (implGridBeside_any x y lo hi a b W hx hy hh).mono fun _ _ hp => hp.2 h)
      (by simp [G0]) (fun r hr => by simp [G0] at hr)

end Go.Proofs.Ytalahpohndjgcab
