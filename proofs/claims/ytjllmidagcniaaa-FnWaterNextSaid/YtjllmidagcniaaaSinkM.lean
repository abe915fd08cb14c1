/- Sinks: what is reckoned. -/
import Derived.Test.YtjllmidagcniaaaM3
namespace Go.Proofs.Ytjllmidagcniaaa
set_option linter.unusedVariables false

open Classical in
/-- the sinks below k, ascending -/
noncomputable def skL (R C : Nat) (Z : Nat → Int) : Nat → List (Ix (R * C))
  | 0 => []
  | k + 1 => skL R C Z k ++ (if h : k < R * C then (if nxt R C Z ⟨k, h⟩ = ⟨k, h⟩ then [⟨k, h⟩] else []) else [])

theorem skL_yes {R C : Nat} {Z : Nat → Int} (i : Ix (R * C)) (h : nxt R C Z i = i) : skL R C Z (i.1 + 1) = skL R C Z i.1 ++ [i] := by
  have e : (⟨i.1, i.2⟩ : Ix (R * C)) = i := rfl
  simp only [skL, i.2, dif_pos]
  rw [e, if_pos h]
theorem skL_no {R C : Nat} {Z : Nat → Int} (i : Ix (R * C)) (h : nxt R C Z i ≠ i) : skL R C Z (i.1 + 1) = skL R C Z i.1 := by
  have e : (⟨i.1, i.2⟩ : Ix (R * C)) = i := rfl
  simp only [skL, i.2, dif_pos]
  rw [e, if_neg h, List.append_nil]
theorem skL_mono (R C : Nat) (Z : Nat → Int) : ∀ {a b : Nat}, a ≤ b → skL R C Z a <+: skL R C Z b := by
  intro a b h
  induction h with
  | refl => exact List.prefix_refl _
  | step _ ih => exact ih.trans ⟨_, rfl⟩
theorem skL_len (R C : Nat) (Z : Nat → Int) : ∀ k, (skL R C Z k).length ≤ k
  | 0 => by simp [skL]
  | k + 1 => by
    have := skL_len R C Z k
    simp only [skL, List.length_append]
    by_cases h : k < R * C
    · simp only [h, dif_pos]
      split <;> simp <;> omega
    · simp [h]; omega

end Go.Proofs.Ytjllmidagcniaaa
