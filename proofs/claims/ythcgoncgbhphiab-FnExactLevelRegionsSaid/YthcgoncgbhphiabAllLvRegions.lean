/- The exact law of LevelRegions, for every grid and level. -/
import Derived.Test.YthcgoncgbhphiabLawLvRegions
import Derived.Test.YthcgoncgbhphiabRegS
namespace Go.Proofs.Ythcgoncgbhphiab
open Go.RowKit
set_option linter.unusedVariables false

theorem all_FnExactLevelRegions (v : Value) (g : G) (lv : Int) (w : World) (hv : RdM 0 w.heap.size w v g) (_ : -9223372036854775808 ≤ lv ∧ lv ≤ 9223372036854775807) :
    Calls Try.prog 3 #[v, .int .i64 lv] w (LawPost w) :=
  law_FnExactLevelRegions v g lv w (g.rgV lv) hv (fun u W lo hi hu hh => specLevelRegions_any u lo hi g lv W hu hh) (fun u W lo hi hu hh => implLevelRegions_any u lo hi g lv W hu hh)

end Go.Proofs.Ythcgoncgbhphiab
