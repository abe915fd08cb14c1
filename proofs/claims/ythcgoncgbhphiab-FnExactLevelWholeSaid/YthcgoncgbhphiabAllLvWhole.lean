/- The exact law of LevelWhole, for every grid. -/
import Derived.Test.YthcgoncgbhphiabLawLvWhole
import Derived.Test.YthcgoncgbhphiabRegW
namespace Go.Proofs.Ythcgoncgbhphiab
open Go.RowKit
set_option linter.unusedVariables false

theorem all_FnExactLevelWhole (v : Value) (g : G) (w : World) (hv : RdM 0 w.heap.size w v g) :
    Calls Try.prog 6 #[v] w (LawPost w) := by
  obtain ⟨x, hx⟩ := whIs_ex g
  exact law_FnExactLevelWhole v g w x hv (fun u W lo hi hu hh => specLevelWhole_any u lo hi g W hu hh x hx) (fun u W lo hi hu hh => implLevelWhole_any u lo hi g W hu hh x hx)

end Go.Proofs.Ythcgoncgbhphiab
