/- LabelPlaces: the model, and the exact law. -/
import Derived.Test.YthelaffjpmcdbaaLp
namespace Go.Proofs.Ythelaffjpmcdbaa
open Go.RowKit
set_option linter.unusedVariables false

/-- one label as a list -/
def lbZ (x y a g : Int) (j : Nat) : Int := if j = 0 then x else if j = 1 then y else if j = 2 then a else g
theorem lsB_one (x y a g : Int) : lsB 1 (lbZ x y a g) = lbB x y a g := by
  by_cases h : LbOk x y a g
  · rw [lbB_yes h, lsB_yes]
    refine ⟨by omega, fun i hi => ?_⟩
    obtain rfl : i = 0 := by omega
    exact ⟨h, fun k hk => by omega⟩
  · rw [lbB_no h, lsB_no]
    intro hk
    exact h (hk.2 0 (by omega)).1

theorem rdT_one {W : World} {B : Nat} {x y a g : Int} (hr : (-9223372036854775808 ≤ x ∧ x ≤ 9223372036854775807) ∧ (-9223372036854775808 ≤ y ∧ y ≤ 9223372036854775807) ∧ (-9223372036854775808 ≤ a ∧ a ≤ 9223372036854775807) ∧ (-9223372036854775808 ≤ g ∧ g ≤ 9223372036854775807))
    (h : W.heap[B]? = some (.cells #[.int .i64 x, .int .i64 y, .int .i64 a, .int .i64 g] 28 (0, 0))) : RdT 0 W.heap.size W (.slice (some ⟨B, 0, none⟩) 1 1) 1 (lbZ x y a g) := by
  obtain ⟨c0, c1, c2, c3⟩ := cellsLb h
  refine ⟨_, 1, B, 0, rfl, Nat.le_refl _, by omega, fun j hj => ?_, fun _ => ⟨rfl, Nat.zero_le _, lt_of_block h⟩, fun j hj => ?_⟩
  · unfold lbZ; obtain ⟨h0, h1, h2, h3⟩ := hr; split; exact h0; split; exact h1; split; exact h2; exact h3
  · rcases (by omega : j = 0 ∨ j = 1 ∨ j = 2 ∨ j = 3) with rfl | rfl | rfl | rfl
    · exact c0
    · exact c1
    · exact c2
    · exact c3

/-- the places' numbers and bounds -/
theorem lpL_ok {x y a g s : Int} : NsOk (lpL x y a g s) ∧ (lpL x y a g s).length ≤ 1048576 := by
  unfold lpL pcM
  by_cases h : LbOk x y a g
  · rw [if_pos (lbB_yes h)]
    by_cases hs : (0 ≤ s ∧ s ≤ 3) ∧ PcOk x y a s
    · rw [if_pos hs, plK_len]
      have hp := hs.2
      unfold PcOk at hp
      have ha := h.2.2.1
      exact ⟨plK_ok (by unfold pcA; omega) (by unfold pcA; omega) (by omega), by omega⟩
    · rw [if_neg hs]; exact ⟨fun z hz => (by cases hz), by simp⟩
  · rw [if_neg (by rw [lbB_no h]; simp)]; exact ⟨fun z hz => (by cases hz), by simp⟩

end Go.Proofs.Ythelaffjpmcdbaa
