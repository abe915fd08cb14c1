/- WaterNext of the model and of the program. -/
import Derived.Test.YtepnhamkadkipaaWNext
import Derived.Test.YtepnhamkadkipaaWSpec
namespace Go.Proofs.Ytepnhamkadkipaa
open Go.RowKit
set_option linter.unusedVariables false

theorem wn_lt {g : G} {r c : Int} (h : g.Cell r c) : r.toNat * g.len 0 + c.toNat < g.n * g.len 0 :=
  cell_lt rfl (by have := h.2.1; omega) (by have := h.2.2; omega)
open Classical in
noncomputable def G.wnV (g : G) (r c : Int) : Int := if h : g.Cell r c then (nxt g.n (g.len 0) g.flat ⟨r.toNat * g.len 0 + c.toNat, wn_lt h⟩).1 else -1
theorem G.wnV_no {g : G} {r c : Int} (h : ¬ g.Cell r c) : g.wnV r c = -1 := by unfold G.wnV; rw [dif_neg h]
theorem G.wnV_yes {g : G} {r c : Nat} (h : g.Cell r c) (i : Ix (g.n * g.len 0)) (hi : i.1 = r * g.len 0 + c) : g.wnV r c = (nxt g.n (g.len 0) g.flat i).1 := by
  unfold G.wnV
  rw [dif_pos h]
  have e : (⟨(r : Int).toNat * g.len 0 + (c : Int).toNat, wn_lt h⟩ : Ix (g.n * g.len 0)) = i := Subtype.ext (by rw [hi]; simp)
  rw [e]

end Go.Proofs.Ytepnhamkadkipaa
