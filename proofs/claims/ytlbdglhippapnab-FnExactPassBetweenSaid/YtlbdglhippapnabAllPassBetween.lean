/- The exact law of PassBetween, for every grid and indexes. -/
import Derived.Test.YtlbdglhippapnabLawPassBetween
import Derived.Test.YtlbdglhippapnabPbJ
namespace Go.Proofs.Ytlbdglhippapnab
open Go.RowKit
set_option linter.unusedVariables false

theorem all_FnExactPassBetween (v : Value) (g : G) (a b : Int) (w : World) (hv : RdM 0 w.heap.size w v g) (_ : -9223372036854775808 ≤ a ∧ a ≤ 9223372036854775807) (_ : -9223372036854775808 ≤ b ∧ b ≤ 9223372036854775807) :
    Calls Try.prog 5 #[v, .int .i64 a, .int .i64 b] w (LawPost w) :=
  law_FnExactPassBetween v g a b w (g.psB a b) hv (fun u W lo hi hu hh => specPassBetween_any u lo hi g a b W hu hh) (fun u W lo hi hu hh => implPassBetween_any u lo hi g a b W hu hh)

end Go.Proofs.Ytlbdglhippapnab
