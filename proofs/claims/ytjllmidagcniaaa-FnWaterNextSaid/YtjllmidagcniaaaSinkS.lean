/- WaterSinks of the model. -/
import Derived.Test.YtjllmidagcniaaaSinkM
import Derived.Test.YtjllmidagcniaaaLongS
namespace Go.Proofs.Ytjllmidagcniaaa
open Go.RowKit
set_option linter.unusedVariables false

open Classical in
noncomputable def G.skV (g : G) : List (Ix (g.n * g.len 0)) := if g.Valid then skL g.n (g.len 0) g.flat (g.n * g.len 0) else []
theorem G.skV_yes {g : G} (h : g.Valid) : g.skV = skL g.n (g.len 0) g.flat (g.n * g.len 0) := by unfold G.skV; rw [if_pos h]
theorem G.skV_no {g : G} (h : ¬ g.Valid) : g.skV = [] := by unfold G.skV; rw [if_neg h]

/-- a list of indexes alone -/
def LvPost {M : Nat} (l : List (Ix M)) (w : World) (e : Ending) (w' : World) : Prop :=
  ∃ v, e = .returned v ∧ Lists w.heap.size w' v l ∧ Below w.heap.size w w'
theorem LvPost.mk' {M : Nat} {L l : List (Ix M)} {w w' : World} {v : Value} (e : L = l) (h : Lists w.heap.size w' v l) (hb : Below w.heap.size w w') : LvPost L w (.returned v) w' := ⟨v, rfl, e ▸ h, hb⟩

end Go.Proofs.Ytjllmidagcniaaa
