/- The longest run: what is reckoned. -/
import Derived.Test.YtdjlobppnhokoaaWRunM
namespace Go.Proofs.Ytdjlobppnhokoaa
set_option linter.unusedVariables false

def lenAt (R C : Nat) (Z : Nat → Int) (k : Nat) : Nat := if h : k < R * C then (runL R C Z ⟨k, h⟩).length else 0
theorem lenAt_eq {R C : Nat} {Z : Nat → Int} (i : Ix (R * C)) : lenAt R C Z i.1 = (runL R C Z i).length := by unfold lenAt; rw [dif_pos i.2]
def lgst (R C : Nat) (Z : Nat → Int) : Nat → Int
  | 0 => 0
  | k + 1 => max (lgst R C Z k) (lenAt R C Z k)
theorem lenAt_le (R C : Nat) (Z : Nat → Int) (k : Nat) : lenAt R C Z k ≤ 100 := by
  unfold lenAt
  split
  · exact runL_len R C Z _
  · omega
theorem lgst_ok (R C : Nat) (Z : Nat → Int) : ∀ k, 0 ≤ lgst R C Z k ∧ lgst R C Z k ≤ 100
  | 0 => by simp [lgst]
  | k + 1 => by
    have h1 := lgst_ok R C Z k
    have h2 := lenAt_le R C Z k
    simp only [lgst]; omega

end Go.Proofs.Ytdjlobppnhokoaa
