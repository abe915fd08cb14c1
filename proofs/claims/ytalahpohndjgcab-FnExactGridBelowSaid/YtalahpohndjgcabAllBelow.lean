/- The exact law of GridBelow, for every two grids. -/
import Derived.Test.YtalahpohndjgcabLawBelow
namespace Go.Proofs.Ytalahpohndjgcab
open Go.RowKit
set_option linter.unusedVariables false

theorem all_FnExactGridBelow (v : Value) (a : G) (u : Value) (b : G) (w : World) (hv : RdM 0 w.heap.size w v a) (hu : RdM 0 w.heap.size w u b) :
    Calls Try.prog 12 #[v, u] w (LawPost w) := by
  by_cases h : BelowOk a b
  · exact law_FnExactGridBelow v a u b w true (belowG a b) hv hu (fun x y W lo hi hx hy hh h1 h2 h3 h4 => (specGridBelow_any x y lo hi a b W hx hy hh h1 h2 h3 h4).mono fun _ _ hp => hp.1 h) (fun x y W lo hi hx hy hh => (implGridBelow_any x y lo hi a b W hx hy hh).mono fun _ _ hp => hp.1 h)
      (by have := h.2.2.1.2; omega) (fun r hr => by have h1 := (h.2.2.2.2 r hr).1; have h2 := h.2.2.2.1.2; omega)
  · exact law_FnExactGridBelow v a u b w false G0 hv hu (fun x y W lo hi hx hy hh h1 h2 h3 h4 => (specGridBelow_any x y lo hi a b W hx hy hh h1 h2 h3 h4).mono fun _ _ hp => hp.2 h) (fun x y W lo hi hx hy hh => (implGridBelow_any x y lo hi a b W hx hy hh).mono fun _ _ hp => hp.2 h)
      (by simp [G0]) (fun r hr => by simp [G0] at hr)

end Go.Proofs.Ytalahpohndjgcab
