/- The program's GridPart. -/
import Derived.Test.YteoncpifjifjlaaDoorImplH
namespace Go.Proofs.YteoncpifjifjlaaDoor
open Go.RowKit
set_option linter.unusedVariables false

/-- what GridPart asks, and its answer -/
def G.PartOk (g : G) (t b l r : Int) : Prop := g.Cell t l ∧ g.Cell b r ∧ t ≤ b ∧ l ≤ r
def partG (g : G) (t b l r : Nat) : G := { n := b - t + 1, len := fun _ => r - l + 1, z := fun i j => g.z (t + i) (l + j) }

theorem has_of_cell {g : G} {r c : Int} (h : g.Cell r c) : 0 ≤ r ∧ r < g.n ∧ 0 ≤ c ∧ c < g.len 0 := ⟨h.2.1.1, by have := h.2.1.2; omega, h.2.2.1, by have := h.2.2.2; omega⟩
theorem cell_of_has {g : G} {r c : Int} (hv : g.Valid) (h : 0 ≤ r ∧ r < g.n ∧ 0 ≤ c ∧ c < g.len 0) : g.Cell r c := ⟨hv, ⟨h.1, by omega⟩, h.2.2.1, by omega⟩

end Go.Proofs.YteoncpifjifjlaaDoor
