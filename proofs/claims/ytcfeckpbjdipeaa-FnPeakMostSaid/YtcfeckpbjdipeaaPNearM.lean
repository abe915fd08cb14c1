/- Water stays where no neighbor is lower: what is reckoned. -/
import Derived.Test.YtcfeckpbjdipeaaSkZ
namespace Go.Proofs.Ytcfeckpbjdipeaa
set_option linter.unusedVariables false

/-- water stays where no neighbor is lower -/
theorem flowTo_stays {M : Nat} (Z : Nat → Int) (i : Ix M) : ∀ (n : Nat) (l : List (Ix M)), l.length = n → ((flowTo Z i l = i) ↔ ∀ x, x ∈ l → ¬ Z x.1 < Z i.1) ∧ Z (flowTo Z i l).1 ≤ Z i.1
  | 0, l, h => by
    have : l = [] := List.eq_nil_of_length_eq_zero h
    subst this
    exact ⟨⟨fun _ x hx => (by cases hx), fun _ => rfl⟩, Int.le_refl _⟩
  | n + 1, l, h => by
    have hne : l ≠ [] := by intro e; subst e; simp at h
    have h1 := flowTo_stays Z i n l.dropLast (by simp [h])
    have e := List.dropLast_concat_getLast hne
    rw [← e, flowTo_snoc]
    refine ⟨⟨fun h2 x hx => ?_, fun h2 => ?_⟩, ?_⟩
    · by_cases hc : Z (l.getLast hne).1 < Z (flowTo Z i l.dropLast).1
      · rw [if_pos hc] at h2
        rw [h2] at hc
        have := h1.2
        omega
      · rw [if_neg hc] at h2
        rcases List.mem_append.1 hx with hx | hx
        · exact h1.1.1 h2 x hx
        · simp only [List.mem_singleton] at hx
          subst hx
          rw [h2] at hc
          exact hc
    · have h3 := h1.1.2 (fun x hx => h2 x (List.mem_append_left _ hx))
      rw [h3, if_neg (h2 _ (by simp))]
    · split
      · have := h1.2; omega
      · exact h1.2
theorem nxt_stays {R C : Nat} (Z : Nat → Int) (i : Ix (R * C)) : nxt R C Z i = i ↔ ∀ x, x ∈ near R C i 4 → ¬ Z x.1 < Z i.1 := (flowTo_stays Z i _ _ rfl).1

theorem skL_holds {R C : Nat} {Z : Nat → Int} {i : Ix (R * C)} : ∀ {k : Nat}, i ∈ skL R C Z k ↔ i.1 < k ∧ nxt R C Z i = i
  | 0 => by simp [skL]
  | k + 1 => by
    simp only [skL, List.mem_append, skL_holds (k := k)]
    constructor
    · rintro (h | h)
      · exact ⟨by omega, h.2⟩
      · split at h
        · rename_i hk
          split at h
          · rename_i hn
            simp only [List.mem_singleton] at h
            subst h
            exact ⟨by simp, hn⟩
          · cases h
        · cases h
    · rintro ⟨h1, h2⟩
      by_cases e : i.1 = k
      · refine Or.inr ?_
        have hk : k < R * C := by rw [← e]; exact i.2
        have ei : (⟨k, hk⟩ : Ix (R * C)) = i := Subtype.ext e.symm
        rw [dif_pos hk, ei, if_pos h2]
        simp
      · exact Or.inl ⟨by omega, h2⟩
/-- a cell is among the sinks where no neighbor is lower -/
theorem sinkHolds {R C : Nat} {Z : Nat → Int} (i : Ix (R * C)) : (skL R C Z (R * C)).any (fun x => x.1 == i.1) = !((near R C i 4).any (fun x => decide (Z x.1 < Z i.1))) := by
  have h1 : (skL R C Z (R * C)).any (fun x => x.1 == i.1) = true ↔ ¬ (near R C i 4).any (fun x => decide (Z x.1 < Z i.1)) = true := by
    rw [List.any_eq_true, List.any_eq_true]
    constructor
    · rintro ⟨x, hx, e⟩ ⟨y, hy, hz⟩
      have ex : x = i := Subtype.ext (by simpa using e)
      subst ex
      exact (nxt_stays Z x).1 (skL_holds.1 hx).2 y hy (by simpa using hz)
    · intro h
      refine ⟨i, skL_holds.2 ⟨i.2, (nxt_stays Z i).2 fun x hx hz => h ⟨x, hx, by simpa using hz⟩⟩, by simp⟩
  cases hA : (skL R C Z (R * C)).any (fun x => x.1 == i.1) <;> cases hB : (near R C i 4).any (fun x => decide (Z x.1 < Z i.1)) <;> simp_all

end Go.Proofs.Ytcfeckpbjdipeaa
