/- The exact law of LevelInside, for every grid and two levels. -/
import Derived.Test.YthcgoncgbhphiabLawLevelInside
import Derived.Test.YthcgoncgbhphiabRegO
import Derived.Test.YthcgoncgbhphiabAllLvNumbers
namespace Go.Proofs.Ythcgoncgbhphiab
open Go.RowKit
set_option linter.unusedVariables false

theorem all_FnExactLevelInside (v : Value) (g : G) (hv lv : Int) (w : World) (hr : RdM 0 w.heap.size w v g) (_ : -9223372036854775808 ≤ hv ∧ hv ≤ 9223372036854775807) (_ : -9223372036854775808 ≤ lv ∧ lv ≤ 9223372036854775807) :
    Calls Try.prog 7 #[v, .int .i64 hv, .int .i64 lv] w (LawPost w) :=
  law_FnExactLevelInside v g hv lv w (g.inB hv lv) (g.inN hv lv) (inZ g.n (g.len 0) g.flat hv lv) hr (fun u W lo hi hu hh => (specLevelInside_any u lo hi g hv lv W hu hh).mono fun _ _ k => k.rdl) (fun u W lo hi hu hh => implLevelInside_any u lo hi g hv lv W hu hh) (by have := G.inN_le (g := g) (hv := hv) (lv := lv); omega)

end Go.Proofs.Ythcgoncgbhphiab
