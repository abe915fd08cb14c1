/- Where the model and the program of chapter 9 meet: FixesValid, FixesDo. -/
import Derived.Test.YtidlloelinmnnaaFk
import Derived.Test.YtidlloelinmnnaaFd
namespace Go.Proofs.Ytidlloelinmnnaa
open Go.RowKit
set_option linter.unusedVariables false

theorem exG_n (g : G) (n : Nat) (Z : Nat → Int) : (exG g n Z).n ≤ 1048576 := by
  by_cases h : FxOk g n Z
  · rw [exG_yes h]; have := h.1.1; show g.n ≤ _; omega
  · rw [exG_no h]; show 0 ≤ _; omega
theorem exG_l (g : G) (n : Nat) (Z : Nat → Int) : ∀ r, r < (exG g n Z).n → (exG g n Z).len r ≤ 1048576 := by
  by_cases h : FxOk g n Z
  · rw [exG_yes h]
    intro r hr
    have := (h.1.2.2 r hr).1
    have := h.1.2.1
    show g.len r ≤ _
    omega
  · rw [exG_no h]
    intro r hr
    exact absurd hr (Nat.not_lt_zero r)

end Go.Proofs.Ytidlloelinmnnaa
