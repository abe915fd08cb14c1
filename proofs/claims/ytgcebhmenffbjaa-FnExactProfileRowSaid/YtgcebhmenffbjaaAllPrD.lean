/- The exact laws of ProfileRow and GridSees. -/
import Derived.Test.YtgcebhmenffbjaaLawProfileRow
import Derived.Test.YtgcebhmenffbjaaLawGridSees
import Derived.Test.YtgcebhmenffbjaaPrN
namespace Go.Proofs.Ytgcebhmenffbjaa
open Go.RowKit
set_option linter.unusedVariables false

theorem all_FnExactProfileRow (v : Value) (g : G) (r : Int) (w : World) (hv : RdM 0 w.heap.size w v g) (_ : -9223372036854775808 ≤ r ∧ r ≤ 9223372036854775807) :
    Calls Try.prog 13 #[v, .int .i64 r] w (LawPost w) :=
  law_FnExactProfileRow v g r w (g.cB r 0) (rwN g r) (g.z r.toNat) hv (fun u W lo hi hu hh => specProfileRow_any u lo hi g r W hu hh) (fun u W lo hi hu hh => implProfileRow_any u lo hi g r W hu hh) (by have := rwN_le g r; omega)
theorem all_FnExactGridSees (v : Value) (g : G) (w : World) (hv : RdM 0 w.heap.size w v g) :
    Calls Try.prog 14 #[v] w (LawPost w) :=
  law_FnExactGridSees v g w g.gsV hv (fun u W lo hi hu hh => specGridSees_any u lo hi g W hu hh) (fun u W lo hi hu hh => implGridSees_any u lo hi g W hu hh)

end Go.Proofs.Ytgcebhmenffbjaa
