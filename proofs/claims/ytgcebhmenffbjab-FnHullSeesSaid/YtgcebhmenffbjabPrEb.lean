/- More clean contracts: pairs, the eye. -/
import Derived.Test.YtgcebhmenffbjabPrE
namespace Go.Proofs.Ytgcebhmenffbjab
open Go.RowKit
set_option linter.unusedVariables false

theorem implPairs_no (v : Value) (lo hi n : Nat) (Z : Nat → Int) (w : World) (hv : RdI lo hi w v n Z) (hh : hi ≤ w.heap.size) (h : ¬ PrOk n Z) : Calls Try.prog 25 #[v] w (IntPost (-1) w) := by
  have := implProfilePairs_any v lo hi n Z w hv hh
  rwa [ppV_no h] at this
theorem specPairs_yes (v : Value) (lo hi n : Nat) (Z : Nat → Int) (w : World) (hv : RdI lo hi w v n Z) (hh : hi ≤ w.heap.size) (h : PrOk n Z) : Calls Try.prog 26 #[v] w (IntPost (prN Z n) w) := by
  have := specProfilePairs_any v lo hi n Z w hv hh
  rwa [ppV_yes h] at this
theorem specPairs_no (v : Value) (lo hi n : Nat) (Z : Nat → Int) (w : World) (hv : RdI lo hi w v n Z) (hh : hi ≤ w.heap.size) (h : ¬ PrOk n Z) : Calls Try.prog 26 #[v] w (IntPost (-1) w) := by
  have := specProfilePairs_any v lo hi n Z w hv hh
  rwa [ppV_no h] at this

/-- what the first i points see, without themselves -/
theorem smR_seen (z : Nat → Int) (n i : Nat) : smR (fun a b => seB z a b 0) n (i + 1) = smR (fun a b => seB z a b 0) n i + (snL z i n).length := by
  rw [snL_cn]; rfl
theorem smR_le (z : Nat → Int) (n : Nat) : ∀ i, smR (fun a b => seB z a b 0) n i ≤ i * n := by
  intro i
  induction i with
  | zero => exact Nat.zero_le _
  | succ i ih =>
    rw [smR_seen]
    have := snL_len z i n
    rw [Nat.succ_mul]; omega
theorem smR_pairs (z : Nat → Int) (n : Nat) : smR (fun a b => seB z a b 0) n n = n + 2 * prN z n := by
  rw [prN_is]
  exact smR_twice _ (fun a b => seB_symm z a b) (fun a => seB_yes (sees_self z a 0)) n

end Go.Proofs.Ytgcebhmenffbjab
