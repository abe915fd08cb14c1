/- The model's GridPart. -/
import Derived.Test.YteoncpifjifjlaaDoorImplI
namespace Go.Proofs.YteoncpifjifjlaaDoor
open Go.RowKit
set_option linter.unusedVariables false

theorem part_valid {g : G} {t b l r : Nat} (h : g.PartOk t b l r) : (partG g t b l r).Valid := by
  obtain ⟨hc1, hc2, htb, hlr⟩ := h
  have p := has_of_cell hc1
  have q := has_of_cell hc2
  have h7 := hc1.1.1
  have l7 := hc1.1.2.1
  refine ⟨by simp only [partG]; omega, by simp only [partG]; omega, fun i hi => ⟨rfl, fun j hj => ?_⟩⟩
  simp only [partG] at *
  exact valid_at hc1.1 (by omega) (by omega)

end Go.Proofs.YteoncpifjifjlaaDoor
