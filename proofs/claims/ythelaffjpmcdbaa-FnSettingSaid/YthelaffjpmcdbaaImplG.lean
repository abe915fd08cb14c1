/- The program's GridAt and GridSet. -/
import Derived.Test.YthelaffjpmcdbaaM2
namespace Go.Proofs.Ythelaffjpmcdbaa
open Go.RowKit
set_option linter.unusedVariables false

theorem eqv_upd {g : G} {r c : Nat} {x : Int} (hr : r < g.n) (hc : c < g.len 0) (hv : g.Valid) : G.Eqv (gridOf g.n (g.len 0) (fun i => if i = r * g.len 0 + c then x else g.flat i)) (g.upd r c x) := by
  refine ⟨rfl, fun i hi => ⟨(hv.2.2 i hi).1.symm, fun j hj => ?_⟩⟩
  have hj' : j < g.len 0 := hj
  simp only [gridOf, G.upd]
  have d1 := div_at i j (g.len 0) hj'
  have d2 := div_at r c (g.len 0) hc
  by_cases e : i * g.len 0 + j = r * g.len 0 + c
  · have e1 : i = r := by rw [← d1.1, ← d2.1, e]
    have e2 : j = c := by rw [← d1.2, ← d2.2, e]
    rw [if_pos e, if_pos ⟨e1, e2⟩]
  · have : ¬ (i = r ∧ j = c) := fun ⟨e1, e2⟩ => e (by rw [e1, e2])
    rw [if_neg e, if_neg this, g.flat_at i j hj']

end Go.Proofs.Ythelaffjpmcdbaa
