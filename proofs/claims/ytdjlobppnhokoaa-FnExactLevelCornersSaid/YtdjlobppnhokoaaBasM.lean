/- Basins: what is reckoned. -/
import Derived.Test.YtdjlobppnhokoaaWRunM
namespace Go.Proofs.Ytdjlobppnhokoaa
set_option linter.unusedVariables false

/-- where the run of a cell ends -/
def endI (R C : Nat) (Z : Nat → Int) (i : Ix (R * C)) : Ix (R * C) := (runL R C Z i).getLastD i
/-- the ends of the runs of the cells below k -/
def bsL (R C : Nat) (Z : Nat → Int) : Nat → List (Ix (R * C))
  | 0 => []
  | k + 1 => bsL R C Z k ++ (if h : k < R * C then [endI R C Z ⟨k, h⟩] else [])
theorem bsL_succ {R C : Nat} {Z : Nat → Int} (i : Ix (R * C)) : bsL R C Z (i.1 + 1) = bsL R C Z i.1 ++ [endI R C Z i] := by
  have e : (⟨i.1, i.2⟩ : Ix (R * C)) = i := rfl
  simp only [bsL, i.2, dif_pos]
theorem bsL_len (R C : Nat) (Z : Nat → Int) : ∀ k, k ≤ R * C → (bsL R C Z k).length = k
  | 0, _ => by simp [bsL]
  | k + 1, h => by
    have := bsL_len R C Z k (by omega)
    simp only [bsL, List.length_append]
    have h2 : k < R * C := by omega
    simp [h2, this]
theorem IsRun.pos {R C : Nat} {Z : Nat → Int} {i : Ix (R * C)} {l : List (Ix (R * C))} (h : IsRun R C Z i l) : 0 < l.length := by
  rcases h.cons with ⟨_, e⟩ | ⟨_, t, e, _⟩ <;> rw [e] <;> simp
theorem endI_at {R C : Nat} {Z : Nat → Int} (hZ : ∀ x, x < R * C → 0 ≤ Z x ∧ Z x ≤ 99) (i : Ix (R * C)) : (runL R C Z i)[(runL R C Z i).length - 1]? = some (endI R C Z i) := by
  have h := (runL_is hZ i).pos
  unfold endI
  generalize runL R C Z i = l at h
  cases l with
  | nil => simp at h
  | cons x l => rw [List.getLastD_cons, ← List.getLast?_eq_getElem?, List.getLast?_cons]; simp [List.getLastD_eq_getLast?]

end Go.Proofs.Ytdjlobppnhokoaa
