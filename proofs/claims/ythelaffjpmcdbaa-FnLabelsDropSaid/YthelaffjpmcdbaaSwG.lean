/- A label left out: what is reckoned. -/
import Derived.Test.YthelaffjpmcdbaaSwF
import Derived.Test.YthelaffjpmcdbaaLe
namespace Go.Proofs.Ythelaffjpmcdbaa
open Go.RowKit
set_option linter.unusedVariables false

/-- the labels behind the one that is left out -/
def sg (k j : Nat) : Nat := if j < k then j else j + 1
theorem sg_lt {k j l : Nat} (h : l < j) : sg k l < sg k j := by unfold sg; split <;> split <;> omega
theorem sg_bd {k j n : Nat} (h : j < n - 1) : sg k j < n := by unfold sg; split <;> omega
theorem dz_at (Z : Nat → Int) (k j c : Nat) (hc : c < 4) : dzF Z k (j * 4 + c) = Z (sg k j * 4 + c) := by
  unfold dzF sg
  by_cases h : j < k
  · rw [if_pos (by omega), if_pos h]
  · rw [if_neg (by omega), if_neg h, show (j + 1) * 4 + c = j * 4 + c + 4 by omega]
theorem dz_four (Z : Nat → Int) (k j : Nat) : dzF Z k (j * 4) = Z (sg k j * 4) ∧ dzF Z k (j * 4 + 1) = Z (sg k j * 4 + 1) ∧ dzF Z k (j * 4 + 2) = Z (sg k j * 4 + 2) ∧ dzF Z k (j * 4 + 3) = Z (sg k j * 4 + 3) :=
  ⟨dz_at Z k j 0 (by omega), dz_at Z k j 1 (by omega), dz_at Z k j 2 (by omega), dz_at Z k j 3 (by omega)⟩
theorem dz_label {n k : Nat} {Z : Nat → Int} (h : LsOk n Z) : LsOk (n - 1) (dzF Z k) := by
  refine ⟨by have := h.1; omega, fun i hi => ?_⟩
  obtain ⟨h1, h2⟩ := h.2 (sg k i) (sg_bd hi)
  obtain ⟨e0, e1, e2, e3⟩ := dz_four Z k i
  refine ⟨by rw [e0, e1, e2, e3]; exact h1, fun l hl => ?_⟩
  obtain ⟨f0, f1, _, _⟩ := dz_four Z k l
  have := h2 (sg k l) (sg_lt hl)
  unfold Spot at this ⊢
  rw [e0, e1, f0, f1]
  exact this
theorem dz_cv (Z : Nat → Int) (k j : Nat) (s : Int) (p : Nat) : Cv (dzF Z k) j s p ↔ Cv Z (sg k j) s p := by
  obtain ⟨e0, e1, e2, e3⟩ := dz_four Z k j
  unfold Cv atA wdN
  rw [e0, e1, e2]
theorem dz_pt (Z : Nat → Int) (k p : Nat) : ptN (dzF Z k) p = ptN Z (sg k p) := by
  obtain ⟨e0, e1, e2, e3⟩ := dz_four Z k p
  unfold ptN
  rw [e0, e1]
theorem dz_pc (Z : Nat → Int) (k j : Nat) (s : Int) : PcZ (dzF Z k) j s ↔ PcZ Z (sg k j) s := by
  obtain ⟨e0, e1, e2, e3⟩ := dz_four Z k j
  unfold PcZ
  rw [e0, e1, e2]
def dqF (sd : Nat → Int) (k j : Nat) : Int := if j < k then sd j else sd (j + 1)
theorem dq_at (sd : Nat → Int) (k j : Nat) : dqF sd k j = sd (sg k j) := by
  unfold dqF sg
  by_cases h : j < k
  · rw [if_pos h, if_pos h]
  · rw [if_neg h, if_neg h]
/-- what is left of a setting is one -/
theorem dz_apt {n k : Nat} {Z sd : Nat → Int} (h : Apt Z n sd n) : Apt (dzF Z k) (n - 1) (dqF sd k) (n - 1) := by
  intro j hj
  rw [dq_at]
  rcases h (sg k j) (sg_bd hj) with h1 | ⟨h1, h2, h3⟩
  · exact Or.inl h1
  · refine Or.inr ⟨by rw [dq_at]; exact h1, by rw [dq_at, dz_pc]; exact h2, fun p hp => ?_⟩
    rw [dq_at, dz_cv] at hp
    obtain ⟨g1, g2⟩ := h3 p hp
    refine ⟨fun q hq => by rw [dz_pt]; exact g1 _ (sg_bd hq), fun l hl hn => ?_⟩
    rw [dq_at] at hn ⊢
    rw [dz_cv]
    exact g2 _ (sg_lt hl) hn
theorem dz_set {n k : Nat} {Z sd : Nat → Int} (h : StOk n Z n sd) : StOk (n - 1) (dzF Z k) (n - 1) (dqF sd k) := by
  rw [stOk_iff] at h ⊢
  exact ⟨dz_label h.1, rfl, dz_apt h.2.2⟩
/-- their number falls by one at most -/
theorem dz_count (Z sd : Nat → Int) (k : Nat) : ∀ m, owK (dzF Z k) false (dqF sd k) m = (if m ≤ k then owK Z false sd m else owK Z false sd (m + 1) - (if sd k = -1 then 0 else 1))
  | 0 => by rw [if_pos (Nat.zero_le _)]; rfl
  | m + 1 => by
    have ih := dz_count Z sd k m
    have h1 : ∀ (Z' : Nat → Int) (i : Nat), ow Z' false i = 1 := fun _ _ => rfl
    rw [owK_succ, ih, dq_at, h1]
    unfold sg
    by_cases h : m < k
    · rw [if_pos (show m ≤ k by omega), if_pos h, if_pos (show m + 1 ≤ k by omega), owK_succ, h1]
    · rw [if_neg h, if_neg (show ¬ m + 1 ≤ k by omega), owK_succ Z false sd (m + 1), h1]
      by_cases e : m = k
      · subst e
        rw [if_pos (Nat.le_refl _), owK_succ, h1]
        omega
      · rw [if_neg (show ¬ m ≤ k by omega)]
        omega
theorem dz_most {n k : Nat} {Z : Nat → Int} (h : LsOk n Z) (hk : k < n) : bst Z false n 0 (mpK Z n) - 1 ≤ bst (dzF Z k) false (n - 1) 0 (mpK (dzF Z k) (n - 1)) := by
  obtain ⟨sd, h1, h2⟩ := most_ex false h
  have h3 := owK_best false (dz_set (k := k) h1)
  rw [dz_count, h2.symm] at *
  by_cases e : n - 1 ≤ k
  · rw [if_pos e] at h3
    have h4 : n = n - 1 + 1 := by omega
    have h5 := owK_succ Z false sd (n - 1)
    rw [← h4] at h5
    have h6 : ow Z false (n - 1) = 1 := rfl
    rw [h6] at h5
    split at h5 <;> omega
  · rw [if_neg e, show n - 1 + 1 = n by omega] at h3
    split at h3 <;> omega
/-- the numbers of the most labels are small -/
theorem bst_small {Z : Nat → Int} {n : Nat} (h : LsOk n Z) : 0 ≤ bst Z false n 0 (mpK Z n) ∧ bst Z false n 0 (mpK Z n) ≤ 6 := by
  obtain ⟨sd, h1, h2⟩ := most_ex false h
  have h3 : ∀ m, 0 ≤ owK Z false sd m ∧ owK Z false sd m ≤ m := by
    intro m
    induction m with
    | zero => exact ⟨Int.le_refl _, Int.le_refl _⟩
    | succ m ih =>
      rw [owK_succ, show ow Z false m = 1 from rfl]
      split <;> omega
  have := h3 n
  have := h.1
  omega
theorem dq_cat (Z : Nat → Int) (n k : Nat) (hk : k < n) : nsV (fnL Z k) ++ nsV (fnL (fun j => Z (k + 1 + j)) (n - (k + 1))) = nsV (fnL (dqF Z k) (n - 1)) := by
  have hl : ∀ (F : Nat → Int) m, (nsV (fnL F m)).length = m := fun F m => by simp [nsV, fnL_len]
  apply List.ext_getElem?
  intro j
  by_cases h1 : j < k
  · rw [List.getElem?_append_left (by rw [hl]; exact h1), nsV_at _ _ (by rw [fnL_len]; exact h1), nsV_at _ _ (by rw [fnL_len]; omega), fnL_z _ _ _ h1, fnL_z _ _ _ (by omega)]
    unfold dqF
    rw [if_pos h1]
  · rw [List.getElem?_append_right (by rw [hl]; omega), hl]
    by_cases h2 : j < n - 1
    · rw [nsV_at _ _ (by rw [fnL_len]; omega), nsV_at _ _ (by rw [fnL_len]; omega), fnL_z _ _ _ (by omega), fnL_z _ _ _ (by omega)]
      unfold dqF
      rw [if_neg h1, show k + 1 + (j - k) = j + 1 by omega]
    · rw [List.getElem?_eq_none (by rw [hl]; omega), List.getElem?_eq_none (by rw [hl]; omega)]
theorem cp_len1 (Z : Nat → Int) (n : Nat) : (nsV (fnL Z n)).length = n * 1 := by simp [nsV, fnL_len]
end Go.Proofs.Ythelaffjpmcdbaa
