/- Climbs, in the model and in the program. -/
import Derived.Test.YtjepmnngphlgoaaPrS
import Derived.Test.YtjepmnngphlgoaaPrI
namespace Go.Proofs.Ytjepmnngphlgoaa
open Go.RowKit
set_option linter.unusedVariables false

open Classical in
noncomputable def clU (n : Nat) (z : Nat → Int) : Int := if PrOk n z then upV z (n - 1) else 0
open Classical in
noncomputable def clD (n : Nat) (z : Nat → Int) : Int := if PrOk n z then dnV z (n - 1) else 0
theorem clU_yes {n : Nat} {z : Nat → Int} (h : PrOk n z) : clU n z = upV z (n - 1) := by unfold clU; rw [if_pos h]
theorem clU_no {n : Nat} {z : Nat → Int} (h : ¬ PrOk n z) : clU n z = 0 := by unfold clU; rw [if_neg h]
theorem clD_yes {n : Nat} {z : Nat → Int} (h : PrOk n z) : clD n z = dnV z (n - 1) := by unfold clD; rw [if_pos h]
theorem clD_no {n : Nat} {z : Nat → Int} (h : ¬ PrOk n z) : clD n z = 0 := by unfold clD; rw [if_neg h]
theorem upV_rng {n : Nat} {z : Nat → Int} (hz : ∀ i, i < n → 0 ≤ z i ∧ z i ≤ 99) : ∀ k, k < n → 0 ≤ upV z k ∧ upV z k ≤ 99 * k := by
  intro k
  induction k with
  | zero => intro _; simp [upV]
  | succ k ih =>
    intro hk
    have h0 := ih (by omega)
    have h1 := hz k (by omega)
    have h2 := hz (k + 1) hk
    simp only [upV]
    omega
theorem dnV_rng {n : Nat} {z : Nat → Int} (hz : ∀ i, i < n → 0 ≤ z i ∧ z i ≤ 99) : ∀ k, k < n → 0 ≤ dnV z k ∧ dnV z k ≤ 99 * k := by
  intro k
  induction k with
  | zero => intro _; simp [dnV]
  | succ k ih =>
    intro hk
    have h0 := ih (by omega)
    have h1 := hz k (by omega)
    have h2 := hz (k + 1) hk
    simp only [dnV]
    omega

end Go.Proofs.Ytjepmnngphlgoaa
