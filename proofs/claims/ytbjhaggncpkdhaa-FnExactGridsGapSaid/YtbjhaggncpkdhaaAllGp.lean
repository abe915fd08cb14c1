/- The exact laws of GridsGap and GridsAgree, for every pair of grids. -/
import Derived.Test.YtbjhaggncpkdhaaLawGridsGap
import Derived.Test.YtbjhaggncpkdhaaLawGridsAgree
namespace Go.Proofs.Ytbjhaggncpkdhaa
open Go.RowKit
set_option linter.unusedVariables false

theorem all_FnExactGridsGap (v : Value) (g : G) (u : Value) (h : G) (w : World) (hv : RdM 0 w.heap.size w v g) (hu : RdM 0 w.heap.size w u h) :
    Calls Try.prog 8 #[v, u] w (LawPost w) :=
  law_FnExactGridsGap v g u h w (gapV g h) hv hu (fun x y W lo hi hx hy hh => specGridsGap_any x y lo hi g h W hx hy) (fun x y W lo hi hx hy hh => implGridsGap_any x y lo hi g h W hx hy hh)
theorem all_FnExactGridsAgree (v : Value) (g : G) (u : Value) (h : G) (w : World) (hv : RdM 0 w.heap.size w v g) (hu : RdM 0 w.heap.size w u h) :
    Calls Try.prog 5 #[v, u] w (LawPost w) :=
  law_FnExactGridsAgree v g u h w (agB g h) hv hu (fun x y W lo hi hx hy hh => specGridsAgree_any x y lo hi g h W hx hy) (fun x y W lo hi hx hy hh => implGridsAgree_any x y lo hi g h W hx hy hh)

end Go.Proofs.Ytbjhaggncpkdhaa
