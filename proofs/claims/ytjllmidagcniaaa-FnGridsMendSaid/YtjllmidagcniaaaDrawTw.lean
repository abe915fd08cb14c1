/- The draws of two grids. -/
import Derived.Test.YtjllmidagcniaaaDrawR
import Derived.Test.YtjllmidagcniaaaPBase
namespace Go.Proofs.Ytjllmidagcniaaa
open Go.RowKit
set_option linter.unusedVariables false

/-- what the draw of two grids leaves -/
def TwgPost (B : Nat) (w : World) (e : Ending) (w' : World) : Prop :=
  ∃ v g u h, e = .returned (.tuple #[v, u]) ∧ (∃ a l c, v = .slice a l c) ∧ (∃ a l c, u = .slice a l c) ∧ RdM (B + 1) w'.heap.size w' v g ∧ RdM (B + 1) w'.heap.size w' u h ∧ (1 ≤ g.n ∧ g.n ≤ 5) ∧ (1 ≤ h.n ∧ h.n ≤ 5) ∧ (∀ r, r < g.n → g.len r ≤ 9) ∧ (∀ r, r < h.n → h.len r ≤ 9) ∧ Chg B (B + 1) w w'

/-- what a law's draw of two grids leaves -/
def DwPost (w : World) (e : Ending) (w' : World) : Prop :=
  ∃ v g u h, e = .returned (.tuple #[v, u]) ∧ (∃ a l c, v = .slice a l c) ∧ (∃ a l c, u = .slice a l c) ∧ RdM 0 w'.heap.size w' v g ∧ RdM 0 w'.heap.size w' u h ∧ (1 ≤ g.n ∧ g.n ≤ 5) ∧ (1 ≤ h.n ∧ h.n ≤ 5) ∧ (∀ r, r < g.n → g.len r ≤ 9) ∧ (∀ r, r < h.n → h.len r ≤ 9) ∧ Below w.heap.size w w'

end Go.Proofs.Ytjllmidagcniaaa
