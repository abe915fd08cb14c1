/- A row of cells is its owner's own: what a round of an iterator leaves of it. -/
import Derived.Test.YtlbdglhippapnabM3
import Derived.Test.YtlbdglhippapnabWLen
namespace Go.Proofs.Ytlbdglhippapnab
open Go.RowKit
set_option linter.unusedVariables false

theorem rowIs_own {β : Type} (b : Nat) (t : TypeId) (n : Nat) (f : β → Nat → Value) : Own (fun s W => W.rowIs b t n (f s)) := fun s X Y row hs hg hrow =>
  hs.of_block (hg.block b hs.lt (fun e => by
    obtain ⟨o, ho, hc⟩ := hrow b e.symm
    obtain ⟨cs, h1, _⟩ := hs
    rw [h1] at ho; cases ho; cases hc))

/-- where the run of cell j ends, as a number -/
def ezV (R C : Nat) (Z : Nat → Int) (j : Nat) : Int := if h : j < R * C then ((endI R C Z ⟨j, h⟩).1 : Int) else 0
theorem ezV_at {R C : Nat} {Z : Nat → Int} (i : Ix (R * C)) : ezV R C Z i.1 = ((endI R C Z i).1 : Int) := by
  unfold ezV
  rw [dif_pos i.2]

/-- the row of ends: below k they stand, at k stands the last of what has come -/
def bzF (R C : Nat) (Z : Nat → Int) (k : Nat) (pre : List (Ix (R * C))) (j : Nat) : Value :=
  if j < k then .int .i64 (ezV R C Z j) else if j = k then .int .i64 ((pre.getLast?.map fun x => (x.1 : Int)).getD 0) else .int .i64 0
theorem bzF_start {R C : Nat} {Z : Nat → Int} (j : Nat) : bzF R C Z 0 [] j = .int .i64 0 := by
  unfold bzF; simp
theorem bzF_put {R C : Nat} {Z : Nat → Int} (k : Nat) (pre : List (Ix (R * C))) (x : Ix (R * C)) (j : Nat) :
    (if j = k then Value.int .i64 (x.1 : Int) else bzF R C Z k pre j) = bzF R C Z k (pre ++ [x]) j := by
  unfold bzF
  by_cases e : j = k
  · subst e; simp
  · simp [e]
theorem bzF_next {R C : Nat} {Z : Nat → Int} (hZ : ∀ x, x < R * C → 0 ≤ Z x ∧ Z x ≤ 99) (i : Ix (R * C)) (j : Nat) : bzF R C Z i.1 (runL R C Z i) j = bzF R C Z (i.1 + 1) [] j := by
  have h := endI_at hZ i
  rw [← List.getLast?_eq_getElem?] at h
  unfold bzF
  by_cases e : j = i.1
  · subst e
    simp [h, ezV_at]
  · by_cases e2 : j < i.1
    · simp [e2, Nat.lt_succ_of_lt e2]
    · have e3 : ¬ j < i.1 + 1 := by omega
      simp [e, e2, e3]

end Go.Proofs.Ytlbdglhippapnab
