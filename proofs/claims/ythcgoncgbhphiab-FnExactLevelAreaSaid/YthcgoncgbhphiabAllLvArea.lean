/- The exact law of LevelArea, for every grid, level and number. -/
import Derived.Test.YthcgoncgbhphiabLawLvArea
import Derived.Test.YthcgoncgbhphiabRegI
namespace Go.Proofs.Ythcgoncgbhphiab
open Go.RowKit
set_option linter.unusedVariables false

theorem all_FnExactLevelArea (v : Value) (g : G) (lv s : Int) (w : World) (hv : RdM 0 w.heap.size w v g) (_ : -9223372036854775808 ≤ lv ∧ lv ≤ 9223372036854775807) (_ : -9223372036854775808 ≤ s ∧ s ≤ 9223372036854775807) :
    Calls Try.prog 5 #[v, .int .i64 lv, .int .i64 s] w (LawPost w) :=
  law_FnExactLevelArea v g lv s w (g.arV lv s) hv (fun u W lo hi hu hh => specLevelArea_any u lo hi g lv s W hu hh) (fun u W lo hi hu hh => implLevelArea_any u lo hi g lv s W hu hh)

end Go.Proofs.Ythcgoncgbhphiab
