/- A run is no longer than its heights. -/
import Derived.Test.YtekekbepobafdabWLongM
import Derived.Test.YtekekbepobafdabPHelp
namespace Go.Proofs.Ytekekbepobafdab
set_option linter.unusedVariables false

theorem IsRun.range {R C : Nat} {Z : Nat → Int} {lo : Int} (h0 : ∀ x, x < R * C → lo ≤ Z x) : ∀ {i : Ix (R * C)} {l : List (Ix (R * C))}, IsRun R C Z i l → (l.length : Int) ≤ Z i.1 - lo + 1 := by
  intro i l h
  induction h with
  | @sink i _ => have := h0 _ i.2; simp; omega
  | @flow i l hne _ ih => have := nxt_low R C Z i hne; simp; omega

theorem lgst_le {R C : Nat} {Z : Nat → Int} {b : Int} (hb : 0 ≤ b) (h : ∀ k, k < R * C → (lenAt R C Z k : Int) ≤ b) : ∀ k, k ≤ R * C → lgst R C Z k ≤ b
  | 0, _ => hb
  | k + 1, hk => by
    have h1 := lgst_le hb h k (by omega)
    have h2 := h k (by omega)
    simp only [lgst]; omega

theorem lgst_le_range (R C : Nat) (Z : Nat → Int) (hZ : ∀ x, x < R * C → 0 ≤ Z x ∧ Z x ≤ 99) (hN : 0 < R * C) : lgst R C Z (R * C) ≤ mx Z (R * C) - mn Z (R * C) + 1 := by
  have h0 : mn Z (R * C) ≤ mx Z (R * C) := Int.le_trans (mn_le Z _ 0 hN) (le_mx Z _ 0 hN)
  refine lgst_le (by omega) (fun k hk => ?_) _ (Nat.le_refl _)
  have e := lenAt_eq (R := R) (C := C) (Z := Z) ⟨k, hk⟩
  simp only at e
  rw [e]
  have h1 := (runL_is hZ ⟨k, hk⟩).range (lo := mn Z (R * C)) (fun x hx => mn_le Z _ x hx)
  have h2 := le_mx Z _ k hk
  simp only at h1
  omega

theorem mn_ok {Z : Nat → Int} : ∀ {n}, 0 < n → (∀ i, i < n → 0 ≤ Z i ∧ Z i ≤ 99) → 0 ≤ mn Z n ∧ mn Z n ≤ 99 := fun h1 h2 => by
  obtain ⟨i, h3, h4⟩ := mn_is Z _ h1
  have := h2 i h3; omega
theorem mx_ok {Z : Nat → Int} : ∀ {n}, 0 < n → (∀ i, i < n → 0 ≤ Z i ∧ Z i ≤ 99) → 0 ≤ mx Z n ∧ mx Z n ≤ 99 := fun h1 h2 => by
  obtain ⟨i, h3, h4⟩ := mx_is Z _ h1
  have := h2 i h3; omega

end Go.Proofs.Ytekekbepobafdab
