/- The draw of FnGridRaise: a grid and a number. -/
import Derived.Test.YtjllmidagcniaaaDrawD
namespace Go.Proofs.Ytjllmidagcniaaa
open Go.RowKit
set_option linter.unusedVariables false

def Lr (i : Nat) : Int := [9223372036854775807, -9223372036854775808, 99].getD i 0
theorem lr_cell {w : World} {b y : Nat} {t : TypeId} (h : w.heap[b]? = some (.cells #[.int .i64 9223372036854775807, .int .i64 (-9223372036854775808), .int .i64 99] t (0, 0))) (hy : y < 3) : w.cell? ⟨b, y, none⟩ = some (.int .i64 (Lr y)) := by
  have : y = 0 ∨ y = 1 ∨ y = 2 := by omega
  rcases this with rfl | rfl | rfl <;> simp [World.cell?, h, Lr]
theorem lr_range (y : Nat) (hy : y < 3) : -9223372036854775808 ≤ Lr y ∧ Lr y ≤ 9223372036854775807 := by
  have : y = 0 ∨ y = 1 ∨ y = 2 := by omega
  rcases this with rfl | rfl | rfl <;> simp [Lr]

/-- what the draw of a grid and a number leaves -/
def DkPost (w : World) (e : Ending) (w' : World) : Prop :=
  ∃ v g k, e = .returned (.tuple #[v, .int .i64 k]) ∧ (∃ a l c, v = .slice a l c) ∧ RdM 0 w'.heap.size w' v g ∧ (1 ≤ g.n ∧ g.n ≤ 5) ∧ (∀ r, r < g.n → g.len r ≤ 9) ∧ (-9223372036854775808 ≤ k ∧ k ≤ 9223372036854775807) ∧ Below w.heap.size w w'

/-- the grid is read behind a change of the reader's block alone -/
theorem RdM.over {hi B : Nat} {w w' : World} {v : Value} {g : G} (h : RdM 0 hi w v g) (hB : Below hi w w') : RdM 0 hi w' v g := h.same (SameIn.below hB (Nat.le_refl _))

end Go.Proofs.Ytjllmidagcniaaa
