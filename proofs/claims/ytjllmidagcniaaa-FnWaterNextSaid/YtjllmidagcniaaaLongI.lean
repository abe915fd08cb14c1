/- WaterLongest of the program. -/
import Derived.Test.YtjllmidagcniaaaWLen
import Derived.Test.YtjllmidagcniaaaM3
import Derived.Lib.MinMax
namespace Go.Proofs.Ytjllmidagcniaaa
open Go.RowKit
set_option linter.unusedVariables false

theorem flat_okW {g : G} (h : g.Valid) {i : Nat} (hi : i < g.n * g.len 0) : 0 ≤ g.flat i ∧ g.flat i ≤ 99 := by
  have h0 := h.2.1.1
  have d1 : i / g.len 0 < g.n := (Nat.div_lt_iff_lt_mul h0).2 hi
  exact (h.2.2 _ d1).2 _ (by rw [(h.2.2 _ d1).1]; exact Nat.mod_lt _ h0)

open Classical in
noncomputable def G.lgV (g : G) : Int := if g.Valid then lgst g.n (g.len 0) g.flat (g.n * g.len 0) else -1
theorem G.lgV_yes {g : G} (h : g.Valid) : g.lgV = lgst g.n (g.len 0) g.flat (g.n * g.len 0) := by unfold G.lgV; rw [if_pos h]
theorem G.lgV_no {g : G} (h : ¬ g.Valid) : g.lgV = -1 := by unfold G.lgV; rw [if_neg h]

end Go.Proofs.Ytjllmidagcniaaa
