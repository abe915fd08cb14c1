/- Settings of the model: SettingValid, SettingWeight, SettingMany. -/
import Derived.Test.YtiilbpkdkbakkaaStS
import Derived.BigQuiet
namespace Go.Proofs.Ytiilbpkdkbakkaa
open Go.RowKit
set_option linter.unusedVariables false

/-- the map with the first i labels at their sides, if that can be -/
noncomputable def alK (Z : Nat → Int) (n : Nat) (sd : Nat → Int) : Nat → Option (Nat → Int)
  | 0 => some (mpK Z n)
  | i + 1 => match alK Z n sd i with
    | none => none
    | some M => if sd i = -1 then some M else if ftB Z M i (sd i) = true then some (stp Z M i (sd i)) else none
theorem alK_none {Z : Nat → Int} {n : Nat} {sd : Nat → Int} {i : Nat} (h : alK Z n sd i = none) : alK Z n sd (i + 1) = none := by simp [alK, h]
theorem alK_out {Z : Nat → Int} {n : Nat} {sd : Nat → Int} {i : Nat} {M : Nat → Int} (h : alK Z n sd i = some M) (hs : sd i = -1) : alK Z n sd (i + 1) = some M := by simp [alK, h, hs]
theorem alK_yes {Z : Nat → Int} {n : Nat} {sd : Nat → Int} {i : Nat} {M : Nat → Int} (h : alK Z n sd i = some M) (hs : ¬ sd i = -1) (hf : Fit Z M i (sd i)) : alK Z n sd (i + 1) = some (stp Z M i (sd i)) := by simp [alK, h, hs, ftB_yes hf]
theorem alK_no {Z : Nat → Int} {n : Nat} {sd : Nat → Int} {i : Nat} {M : Nat → Int} (h : alK Z n sd i = some M) (hs : ¬ sd i = -1) (hf : ¬ Fit Z M i (sd i)) : alK Z n sd (i + 1) = none := by simp [alK, h, hs, ftB_no hf]
theorem alK_none_le {Z : Nat → Int} {n : Nat} {sd : Nat → Int} {i : Nat} (h : alK Z n sd i = none) : ∀ j, i ≤ j → alK Z n sd j = none := by
  intro j hj
  induction j with
  | zero => obtain rfl : i = 0 := by omega
            exact h
  | succ j ih =>
    by_cases e : i ≤ j
    · exact alK_none (ih e)
    · obtain rfl : i = j + 1 := by omega
      exact h
theorem alK_range {Z : Nat → Int} {n : Nat} {sd : Nat → Int} : ∀ i M, alK Z n sd i = some M → ∀ j, j < i → -1 ≤ sd j ∧ sd j ≤ 3 := by
  intro i
  induction i with
  | zero => intro M _ j hj; omega
  | succ i ih =>
    intro M h j hj
    cases hi : alK Z n sd i with
    | none => rw [alK_none hi] at h; cases h
    | some M' =>
      by_cases e : j < i
      · exact ih M' hi j e
      · obtain rfl : j = i := by omega
        by_cases hs : sd j = -1
        · omega
        · by_cases hf : Fit Z M' j (sd j)
          · have := hf.1; omega
          · rw [alK_no hi hs hf] at h; cases h
theorem alK_ok {Z : Nat → Int} {n : Nat} {sd : Nat → Int} : ∀ i M, i ≤ 6 → alK Z n sd i = some M → MpOk M := by
  intro i
  induction i with
  | zero => intro M _ h; simp only [alK, Option.some.injEq] at h; subst h; exact mpK_ok Z n
  | succ i ih =>
    intro M h6 h
    cases hi : alK Z n sd i with
    | none => rw [alK_none hi] at h; cases h
    | some M' =>
      have hM := ih M' (by omega) hi
      by_cases hs : sd i = -1
      · rw [alK_out hi hs] at h; simp only [Option.some.injEq] at h; subst h; exact hM
      · by_cases hf : Fit Z M' i (sd i)
        · rw [alK_yes hi hs hf] at h; simp only [Option.some.injEq] at h; subst h; exact stp_ok hM (by omega)
        · rw [alK_no hi hs hf] at h; cases h

/-- a setting -/
def StOk (n : Nat) (Z : Nat → Int) (m : Nat) (sd : Nat → Int) : Prop := LsOk n Z ∧ m = n ∧ ∃ M, alK Z n sd n = some M
noncomputable def svB (n : Nat) (Z : Nat → Int) (m : Nat) (sd : Nat → Int) : Bool := @decide (StOk n Z m sd) (Classical.propDecidable _)
theorem svB_yes {n m : Nat} {Z sd : Nat → Int} (h : StOk n Z m sd) : svB n Z m sd = true := by simp [svB, h]
theorem svB_no {n m : Nat} {Z sd : Nat → Int} (h : ¬ StOk n Z m sd) : svB n Z m sd = false := by simp [svB, h]
/-- the weight of the first i labels that are set -/
def wtK (Z sd : Nat → Int) : Nat → Int
  | 0 => 0
  | i + 1 => if sd i = -1 then wtK Z sd i else wtK Z sd i + Z (i * 4 + 3)
theorem wtK_range {n : Nat} {Z sd : Nat → Int} (h : LsOk n Z) : ∀ i, i ≤ n → 0 ≤ wtK Z sd i ∧ wtK Z sd i ≤ 9 * i := by
  intro i
  induction i with
  | zero => intro _; simp [wtK]
  | succ i ih =>
    intro hi
    have h1 := ih (by omega)
    have h2 := (h.2 i (by omega)).1.2.2.2
    simp only [wtK]
    split <;> omega
/-- the map of a setting, or none -/
def AlPost (o : Option (Nat → Int)) (w : World) (e : Ending) (w' : World) : Prop :=
  (∀ M, o = some M → LsPost true 100 M w e w') ∧ (o = none → NoPost w e w')

end Go.Proofs.Ytiilbpkdkbakkaa
