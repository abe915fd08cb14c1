/- Runs: what is reckoned. -/
import Derived.Test.YtdjlobppnhokoaaWMath
namespace Go.Proofs.Ytdjlobppnhokoaa
set_option linter.unusedVariables false

theorem flowTo_low {M : Nat} (Z : Nat → Int) (i : Ix M) : ∀ l : List (Ix M), flowTo Z i l = i ∨ Z (flowTo Z i l).1 < Z i.1 := by
  unfold flowTo
  intro l
  induction l generalizing i with
  | nil => exact Or.inl rfl
  | cons x l ih =>
    simp only [List.foldl_cons]
    by_cases h : Z x.1 < Z i.1
    · simp only [h, if_true]
      rcases ih x with e | e
      · rw [e]; exact Or.inr h
      · exact Or.inr (by omega)
    · simp only [h, if_false]
      exact ih i

theorem nxt_low (R C : Nat) (Z : Nat → Int) (i : Ix (R * C)) (h : nxt R C Z i ≠ i) : Z (nxt R C Z i).1 < Z i.1 := (flowTo_low Z i _).resolve_left h

def runN (R C : Nat) (Z : Nat → Int) : Nat → Ix (R * C) → List (Ix (R * C))
  | 0, i => [i]
  | f + 1, i => if nxt R C Z i = i then [i] else i :: runN R C Z f (nxt R C Z i)

/-- the run of a cell -/
inductive IsRun (R C : Nat) (Z : Nat → Int) : Ix (R * C) → List (Ix (R * C)) → Prop
  | sink {i : Ix (R * C)} : nxt R C Z i = i → IsRun R C Z i [i]
  | flow {i : Ix (R * C)} {l : List (Ix (R * C))} : nxt R C Z i ≠ i → IsRun R C Z (nxt R C Z i) l → IsRun R C Z i (i :: l)

theorem IsRun.cons {R C : Nat} {Z : Nat → Int} {i : Ix (R * C)} {l : List (Ix (R * C))} (h : IsRun R C Z i l) : (nxt R C Z i = i ∧ l = [i]) ∨ (nxt R C Z i ≠ i ∧ ∃ t, l = i :: t ∧ IsRun R C Z (nxt R C Z i) t) := by
  cases h with
  | sink h => exact Or.inl ⟨h, rfl⟩
  | flow h1 h2 => exact Or.inr ⟨h1, _, rfl, h2⟩

theorem runN_is (R C : Nat) (Z : Nat → Int) (h0 : ∀ x, x < R * C → 0 ≤ Z x) : ∀ (f : Nat) (i : Ix (R * C)), Z i.1 ≤ f → IsRun R C Z i (runN R C Z f i)
  | 0, i, h => by
    refine IsRun.sink ?_
    apply Classical.byContradiction
    intro e
    have := nxt_low R C Z i e
    have := h0 _ (nxt R C Z i).2
    simp at h
    omega
  | f + 1, i, h => by
    unfold runN
    by_cases e : nxt R C Z i = i
    · rw [if_pos e]; exact IsRun.sink e
    · rw [if_neg e]
      exact IsRun.flow e (runN_is R C Z h0 f _ (by have := nxt_low R C Z i e; simp at h; omega))

def runL (R C : Nat) (Z : Nat → Int) (i : Ix (R * C)) : List (Ix (R * C)) := runN R C Z 99 i
theorem runL_is {R C : Nat} {Z : Nat → Int} (hZ : ∀ x, x < R * C → 0 ≤ Z x ∧ Z x ≤ 99) (i : Ix (R * C)) : IsRun R C Z i (runL R C Z i) :=
  runN_is R C Z (fun x hx => (hZ x hx).1) 99 i (hZ _ i.2).2
theorem runN_len (R C : Nat) (Z : Nat → Int) : ∀ (f : Nat) (i : Ix (R * C)), (runN R C Z f i).length ≤ f + 1
  | 0, i => by simp [runN]
  | f + 1, i => by
    unfold runN
    split
    · simp
    · simp; exact runN_len R C Z f _
theorem runL_len (R C : Nat) (Z : Nat → Int) (i : Ix (R * C)) : (runL R C Z i).length ≤ 100 := runN_len R C Z 99 i

end Go.Proofs.Ytdjlobppnhokoaa
