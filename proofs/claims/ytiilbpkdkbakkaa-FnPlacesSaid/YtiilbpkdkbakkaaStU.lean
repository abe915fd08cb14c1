/- Settings of the model: SettingWeight, SettingMany. -/
import Derived.Test.YtiilbpkdkbakkaaStT
namespace Go.Proofs.Ytiilbpkdkbakkaa
open Go.RowKit
set_option linter.unusedVariables false

/-- the weight of a setting, or -1 -/
noncomputable def swV (n : Nat) (Z : Nat → Int) (m : Nat) (sd : Nat → Int) : Int := if svB n Z m sd = true then wtK Z sd n else -1
theorem swV_yes {n m : Nat} {Z sd : Nat → Int} (h : StOk n Z m sd) : swV n Z m sd = wtK Z sd n := by unfold swV; rw [svB_yes h]; rfl
theorem swV_no {n m : Nat} {Z sd : Nat → Int} (h : ¬ StOk n Z m sd) : swV n Z m sd = -1 := by unfold swV; rw [svB_no h]; rfl

/-- how many settings, or -1 -/
noncomputable def smV (n : Nat) (Z : Nat → Int) : Int := if lsB n Z = true then (ct Z n 0 (mpK Z n) : Int) else -1

end Go.Proofs.Ytiilbpkdkbakkaa
