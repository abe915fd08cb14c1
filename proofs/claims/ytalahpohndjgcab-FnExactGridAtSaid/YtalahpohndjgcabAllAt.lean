/- The exact law of GridAt, for every grid. -/
import Derived.Test.YtalahpohndjgcabLawAt
namespace Go.Proofs.Ytalahpohndjgcab
open Go.RowKit
set_option linter.unusedVariables false

theorem all_FnExactGridAt (v : Value) (g : G) (r c : Int) (w : World) (hv : RdM 0 w.heap.size w v g) (_ : -9223372036854775808 ≤ r ∧ r ≤ 9223372036854775807) (_ : -9223372036854775808 ≤ c ∧ c ≤ 9223372036854775807) :
    Calls Try.prog 4 #[v, .int .i64 r, .int .i64 c] w (LawPost w) :=
  law_FnExactGridAt v g r c w (g.atV r c) hv (fun u W lo hi hu _ => specGridAt_any u lo hi g r c W hu) (fun u W lo hi hu hh => implGridAt_any u lo hi g r c W hu hh)

end Go.Proofs.Ytalahpohndjgcab
