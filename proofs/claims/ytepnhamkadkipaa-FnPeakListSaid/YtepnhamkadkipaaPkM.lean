/- Peaks: what is reckoned. -/
import Derived.Test.YtepnhamkadkipaaM3
namespace Go.Proofs.Ytepnhamkadkipaa
set_option linter.unusedVariables false

/-- a is ranked higher than b -/
def hiB (Z : Nat → Int) (a b : Nat) : Bool := decide (Z b < Z a ∨ (Z a = Z b ∧ a < b))
theorem hiB_gt {Z : Nat → Int} {a b : Nat} (h : Z b < Z a) : hiB Z a b = true := by simp [hiB, h]
theorem hiB_lt {Z : Nat → Int} {a b : Nat} (h : Z a < Z b) : hiB Z a b = false := by
  unfold hiB; rw [decide_eq_false_iff_not]; omega
theorem hiB_eq {Z : Nat → Int} {a b : Nat} (h : Z a = Z b) : hiB Z a b = decide (a < b) := by
  unfold hiB
  by_cases e : a < b
  · rw [decide_eq_true (Or.inr ⟨h, e⟩), decide_eq_true e]
  · rw [decide_eq_false (by omega), decide_eq_false e]

/-- no cell of a list is ranked higher than i -/
def pkL {M : Nat} (Z : Nat → Int) (i : Nat) (l : List (Ix M)) : Bool := l.all fun x => !hiB Z x.1 i
theorem pkL_nil {M : Nat} (Z : Nat → Int) (i : Nat) : pkL Z i ([] : List (Ix M)) = true := rfl
theorem pkL_snoc {M : Nat} (Z : Nat → Int) (i : Nat) (l : List (Ix M)) (x : Ix M) : pkL Z i (l ++ [x]) = (pkL Z i l && !hiB Z x.1 i) := by simp [pkL]
theorem pkL_step {M : Nat} {Z : Nat → Int} {i : Nat} {l : List (Ix M)} {x : Ix M} (h : pkL Z i l = true) (e : hiB Z x.1 i = false) : pkL Z i (l ++ [x]) = true := by rw [pkL_snoc, h, e]; rfl
theorem pkL_hit {M : Nat} {Z : Nat → Int} {i : Nat} {l : List (Ix M)} {x : Ix M} (hx : x ∈ l) (e : hiB Z x.1 i = true) : pkL Z i l = false := by
  unfold pkL
  rw [List.all_eq_false]
  exact ⟨x, hx, by simp [e]⟩

def pkQ (R C : Nat) (Z : Nat → Int) (i : Ix (R * C)) : Bool := pkL Z i.1 (near R C i 4)

/-- the lists are a grid, and the cell is a peak -/
def G.PkIn (g : G) (i : Int) : Prop := g.Valid ∧ 0 ≤ i ∧ i < (g.n * g.len 0 : Nat)
open Classical in
noncomputable def G.pkB (g : G) (i : Int) : Bool := if h : g.PkIn i then pkQ g.n (g.len 0) g.flat ⟨i.toNat, by have := h.2; omega⟩ else false
theorem G.pkB_no {g : G} {i : Int} (h : ¬ g.PkIn i) : g.pkB i = false := by unfold G.pkB; rw [dif_neg h]
theorem G.pkB_yes {g : G} {i : Ix (g.n * g.len 0)} (h : g.Valid) : g.pkB (i.1 : Int) = pkQ g.n (g.len 0) g.flat i := by
  have hp : g.PkIn (i.1 : Int) := ⟨h, by omega, by have := i.2; omega⟩
  unfold G.pkB
  rw [dif_pos hp]
  congr 1

end Go.Proofs.Ytepnhamkadkipaa
