/- The list of the peaks in mathematics: sorted, with the highest cell first. -/
import Derived.Test.YtcfeckpbjdipeaaPkZ
import Derived.Test.YtcfeckpbjdipeaaGrZ
namespace Go.Proofs.Ytcfeckpbjdipeaa
set_option linter.unusedVariables false

theorem rk_next {R C : Nat} {Z : Nat → Int} {k : Nat} (hk : k + 1 < (rkL R C Z (R * C)).length) : hiB Z ((rkL R C Z (R * C))[k]'(by omega)).1 ((rkL R C Z (R * C))[k + 1]).1 = true :=
  (List.pairwise_iff_getElem.1 (rkL_rk (R := R) (C := C) (Z := Z) (Nat.le_refl _))) k (k + 1) (by omega) hk (by omega)
theorem rk_has {R C : Nat} {Z : Nat → Int} (i : Ix (R * C)) : (rkL R C Z (R * C)).any (fun x => x.1 == i.1) = pkQ R C Z i := by
  by_cases h : pkQ R C Z i = true
  · rw [h, List.any_eq_true]
    exact ⟨i, (rkL_mem (Nat.le_refl _) i).2 ⟨i.2, h⟩, by simp⟩
  · have h2 : pkQ R C Z i = false := by simpa using h
    rw [h2, List.any_eq_false]
    intro x hx hxi
    have : x = i := Subtype.ext (by simpa using hxi)
    subst this
    exact h ((rkL_mem (Nat.le_refl _) x).1 hx).2
theorem hiB_trP {Z : Nat → Int} {a b c : Nat} (h1 : hiB Z a b = true) (h2 : hiB Z b c = true) : hiB Z a c = true := by
  simp only [hiB, decide_eq_true_eq] at *
  omega
/-- the highest cell -/
theorem best_ex (Z : Nat → Int) : ∀ n, 0 < n → ∃ b, b < n ∧ ∀ x, x < n → hiB Z x b = false := by
  intro n
  induction n with
  | zero => intro h; omega
  | succ n ih =>
    intro _
    by_cases h0 : n = 0
    · subst h0
      exact ⟨0, by omega, fun x hx => by rw [show x = 0 by omega]; exact hiB_irr Z 0⟩
    · obtain ⟨b, hb, hm⟩ := ih (by omega)
      by_cases h : hiB Z n b = true
      · refine ⟨n, by omega, fun x hx => ?_⟩
        by_cases e : x = n
        · rw [e]; exact hiB_irr Z n
        · have h1 := hm x (by omega)
          cases g : hiB Z x n with
          | false => rfl
          | true => rw [hiB_trP g h] at h1; cases h1
      · refine ⟨b, by omega, fun x hx => ?_⟩
        by_cases e : x = n
        · rw [e]; simpa using h
        · exact hm x (by omega)
theorem rk_first {R C : Nat} {Z : Nat → Int} (h0 : 0 < R * C) : ∃ (hl : 0 < (rkL R C Z (R * C)).length), ∀ x, x < R * C → hiB Z x ((rkL R C Z (R * C))[0]).1 = false := by
  obtain ⟨b, hb, hm⟩ := best_ex Z (R * C) h0
  have hq : pkQ R C Z ⟨b, hb⟩ = true := by
    unfold pkQ pkL
    rw [List.all_eq_true]
    intro x hx
    rw [hm x.1 x.2]; rfl
  have hmem : (⟨b, hb⟩ : Ix (R * C)) ∈ rkL R C Z (R * C) := (rkL_mem (Nat.le_refl _) _).2 ⟨hb, hq⟩
  have hl := List.length_pos_of_mem hmem
  refine ⟨hl, ?_⟩
  obtain ⟨j, hj, ej⟩ := List.getElem_of_mem hmem
  have e0 : ((rkL R C Z (R * C))[0]).1 = b := by
    by_cases hj0 : j = 0
    · subst hj0; rw [ej]
    · have := (List.pairwise_iff_getElem.1 (rkL_rk (R := R) (C := C) (Z := Z) (Nat.le_refl _))) 0 j hl hj (by omega)
      rw [ej] at this
      have h2 := hm ((rkL R C Z (R * C))[0]).1 ((rkL R C Z (R * C))[0]).2
      rw [this] at h2; cases h2
  intro x hx
  rw [e0]; exact hm x hx
theorem mx_ge (Z : Nat → Int) : ∀ n x, x < n → Z x ≤ mx Z n := by
  intro n
  induction n with
  | zero => intro x hx; omega
  | succ n ih =>
    intro x hx
    rw [mx_succ]
    by_cases e : x = n
    · rw [e]; omega
    · have := ih x (by omega); omega
theorem mx_le {Z : Nat → Int} {y : Int} : ∀ k, Z 0 ≤ y → (∀ x, x < k → Z x ≤ y) → mx Z k ≤ y := by
  intro k
  induction k with
  | zero => intro h _; exact h
  | succ k ih =>
    intro h0 h
    rw [mx_succ]
    have h1 := ih h0 (fun x hx => h x (by omega))
    have h2 := h k (by omega)
    omega
theorem mx_top {Z : Nat → Int} {b n : Nat} (hb : b < n) (hm : ∀ x, x < n → Z x ≤ Z b) : mx Z n = Z b := by
  have h1 := mx_ge Z n b hb
  have h2 := mx_le (Z := Z) (y := Z b) n (hm 0 (by omega)) hm
  omega
theorem hiB_le {Z : Nat → Int} {x b : Nat} (h : hiB Z x b = false) : Z x ≤ Z b := by
  simp only [hiB, decide_eq_false_iff_not] at h
  omega

end Go.Proofs.Ytcfeckpbjdipeaa
