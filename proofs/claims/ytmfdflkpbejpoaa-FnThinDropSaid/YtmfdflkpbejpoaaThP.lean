/- Lines that are linked by a rule are thinned profiles; how long half of a profile is. -/
import Derived.Test.YtmfdflkpbejpoaaThN
namespace Go.Proofs.Ytmfdflkpbejpoaa
open Go.RowKit
set_option linter.unusedVariables false

theorem nsZ_zero (x : Int) (l : List Int) : nsZ (x :: l) 0 = x := by simp [nsZ]
theorem nsZ_succ (x : Int) (l : List Int) (k : Nat) : nsZ (x :: l) (k + 1) = nsZ l k := by simp [nsZ]
theorem ln_facts {n : Nat} {f : Nat → Nat} (hf : Rul n f) : ∀ d i, i + d + 1 = n → 1 ≤ (lnL n f i).length ∧ nsZ (lnL n f i) 0 = i ∧ nsZ (lnL n f i) ((lnL n f i).length - 1) = (n : Int) - 1 ∧ ∀ k, k + 1 < (lnL n f i).length → nsZ (lnL n f i) k < nsZ (lnL n f i) (k + 1) := by
  intro d
  induction d using Nat.strongRecOn with
  | ind d ih =>
    intro i h
    by_cases hi : i + 1 < n
    · have hr := hf i hi
      obtain ⟨h1, h2, h3, h4⟩ := ih (n - f i - 1) (by omega) (f i) (by omega)
      rw [lnL_step hf hi]
      refine ⟨by simp, nsZ_zero _ _, ?_, fun k hk => ?_⟩
      · rw [List.length_cons]
        obtain ⟨t, ht⟩ : ∃ t, (lnL n f (f i)).length = t + 1 := ⟨(lnL n f (f i)).length - 1, by omega⟩
        rw [ht] at h3 ⊢
        rw [show t + 1 + 1 - 1 = t + 1 by omega, nsZ_succ]
        exact h3
      · rw [List.length_cons] at hk
        cases k with
        | zero => rw [nsZ_zero, nsZ_succ, h2]; omega
        | succ k => rw [nsZ_succ, nsZ_succ]; exact h4 k (by omega)
    · rw [lnL_last hi]
      refine ⟨by simp, nsZ_zero _ _, ?_, fun k hk => by simp at hk⟩
      show nsZ [(i : Int)] 0 = _
      rw [nsZ_zero]; omega
theorem line_ok {n : Nat} {z : Nat → Int} {f : Nat → Nat} (hf : Rul n f) (h : PrOk n z) : ThOk n z (lnL n f 0).length (nsZ (lnL n f 0)) := by
  obtain ⟨h1, h2, h3, h4⟩ := ln_facts hf (n - 1) 0 (by have := h.1.1; omega)
  exact ⟨h, h1, h2, h3, h4⟩
theorem half_len {n : Nat} : ∀ d i, i + d + 1 = n → (lnL n (haF n) i).length = (d + 1) / 2 + 1 := by
  intro d
  induction d using Nat.strongRecOn with
  | ind d ih =>
    intro i h
    by_cases hi : i + 1 < n
    · rw [lnL_step (haF_rul n) hi, List.length_cons]
      by_cases h2 : i + 2 < n
      · have e1 : haF n i = i + 2 := by unfold haF; omega
        rw [e1, ih (d - 2) (by omega) (i + 2) (by omega)]
        omega
      · have e1 : haF n i = i + 1 := by unfold haF; omega
        rw [e1, lnL_last (by omega)]
        show 1 + 1 = _
        omega
    · rw [lnL_last hi]
      show 1 = _
      omega
theorem haL_len {n : Nat} (h : 1 ≤ n) : (haL n).length = n / 2 + 1 := by
  have := half_len (n := n) (n - 1) 0 (by omega)
  unfold haL
  rw [this, show n - 1 + 1 = n by omega]

end Go.Proofs.Ytmfdflkpbejpoaa
