/- The best setting in mathematics: the first of the greatest is found label by label. -/
import Derived.Test.YthelaffjpmcdbaaStB
namespace Go.Proofs.Ythelaffjpmcdbaa
open Go.RowKit
set_option linter.unusedVariables false

/-- the first that weighs most -/
def fbF (F : (Nat → Int) → Int) (a : Int × (Nat → Int)) (L : List (Nat → Int)) : Int × (Nat → Int) := L.foldl (fun a x => if a.1 < F x then (F x, x) else a) a
theorem fbF_app (F : (Nat → Int) → Int) (a : Int × (Nat → Int)) (L K : List (Nat → Int)) : fbF F a (L ++ K) = fbF F (fbF F a L) K := by simp [fbF, List.foldl_append]
theorem fbF_one (F : (Nat → Int) → Int) (a : Int × (Nat → Int)) (x : Nat → Int) : fbF F a [x] = if a.1 < F x then (F x, x) else a := rfl

/-- the least side of the first s at which the greatest sum is reached, or -1 -/
noncomputable def ch1 (Z : Nat → Int) (k : Nat) (M : Nat → Int) (o best : Int) (r : (Nat → Int) → Int) : Nat → Int
  | 0 => -1
  | s + 1 => if 0 ≤ ch1 Z k M o best r s then ch1 Z k M o best r s else if (ftB Z M k (s : Int) && decide (o + r (stp Z M k s) = best)) = true then s else -1
theorem ch1_keep {Z : Nat → Int} {k : Nat} {M : Nat → Int} {o best : Int} {r : (Nat → Int) → Int} {s : Nat} (h : 0 ≤ ch1 Z k M o best r s) : ch1 Z k M o best r (s + 1) = ch1 Z k M o best r s := if_pos h
theorem ch1_yes {Z : Nat → Int} {k : Nat} {M : Nat → Int} {o best : Int} {r : (Nat → Int) → Int} {s : Nat} (h : ch1 Z k M o best r s < 0) (hf : Fit Z M k s) (he : o + r (stp Z M k s) = best) : ch1 Z k M o best r (s + 1) = s := by
  show (if _ then _ else _) = _
  rw [if_neg (by omega), if_pos (by rw [ftB_yes hf]; simp [he])]
theorem ch1_no {Z : Nat → Int} {k : Nat} {M : Nat → Int} {o best : Int} {r : (Nat → Int) → Int} {s : Nat} (h : ch1 Z k M o best r s < 0) (hf : ¬ (Fit Z M k s ∧ o + r (stp Z M k s) = best)) : ch1 Z k M o best r (s + 1) = -1 := by
  show (if _ then _ else _) = _
  rw [if_neg (by omega), if_neg]
  by_cases hft : Fit Z M k s
  · have : ¬ o + r (stp Z M k s) = best := fun e => hf ⟨hft, e⟩
    simp [this]
  · rw [ftB_no hft]; simp
theorem ch1_ge {Z : Nat → Int} {k : Nat} {M : Nat → Int} {o best : Int} {r : (Nat → Int) → Int} : ∀ s : Nat, -1 ≤ ch1 Z k M o best r s ∧ ch1 Z k M o best r s < s := by
  intro s
  induction s with
  | zero => show (-1 : Int) ≤ -1 ∧ (-1 : Int) < 0; omega
  | succ s ih =>
    simp only [ch1]
    split
    · omega
    · split <;> omega
/-- the sides that are chosen so, label by label -/
noncomputable def gd (Z : Nat → Int) (b : Bool) : Nat → Nat → (Nat → Int) → (Nat → Int) → (Nat → Int)
  | 0, _, sd, _ => sd
  | f + 1, k, sd, M =>
    if ch1 Z k M (ow Z b k) (bst Z b (f + 1) k M) (bst Z b f (k + 1)) 4 < 0 then gd Z b f (k + 1) sd M
    else gd Z b f (k + 1) (upS sd k (ch1 Z k M (ow Z b k) (bst Z b (f + 1) k M) (bst Z b f (k + 1)) 4)) (stp Z M k (ch1 Z k M (ow Z b k) (bst Z b (f + 1) k M) (bst Z b f (k + 1)) 4))

theorem bs1_mono {Z : Nat → Int} {k : Nat} {M : Nat → Int} {o c : Int} {r : (Nat → Int) → Int} (s : Nat) : ∀ t, s ≤ t → bs1 Z k M o c r s ≤ bs1 Z k M o c r t := by
  intro t
  induction t with
  | zero => intro h; obtain rfl : s = 0 := by omega
            exact Int.le_refl _
  | succ t ih =>
    intro h
    by_cases e : s = t + 1
    · subst e; exact Int.le_refl _
    · have := ih (by omega)
      simp only [bs1]
      split <;> omega
theorem bs1_ub {Z : Nat → Int} {k : Nat} {M : Nat → Int} {o c : Int} {r : (Nat → Int) → Int} {s : Nat} (hs : s < 4) (hf : Fit Z M k s) : o + r (stp Z M k s) ≤ bs1 Z k M o c r 4 := by
  have := bs1_mono (Z := Z) (k := k) (M := M) (o := o) (c := c) (r := r) (s + 1) 4 (by omega)
  rw [bs1_yes hf] at this
  omega
theorem bs1_at {Z : Nat → Int} {k : Nat} {M : Nat → Int} {o c : Int} {r : (Nat → Int) → Int} : ∀ s, bs1 Z k M o c r s = c ∨ ∃ j, j < s ∧ Fit Z M k j ∧ o + r (stp Z M k j) = bs1 Z k M o c r s := by
  intro s
  induction s with
  | zero => exact Or.inl rfl
  | succ s ih =>
    by_cases hf : Fit Z M k s
    · rw [bs1_yes hf]
      by_cases hm : bs1 Z k M o c r s ≤ o + r (stp Z M k s)
      · exact Or.inr ⟨s, by omega, hf, by omega⟩
      · rcases ih with h | ⟨j, h1, h2, h3⟩
        · exact Or.inl (by omega)
        · exact Or.inr ⟨j, by omega, h2, by omega⟩
    · rw [bs1_no hf]
      rcases ih with h | ⟨j, h1, h2, h3⟩
      · exact Or.inl h
      · exact Or.inr ⟨j, by omega, h2, h3⟩
theorem ch1_none {Z : Nat → Int} {k : Nat} {M : Nat → Int} {o best : Int} {r : (Nat → Int) → Int} : ∀ s, ch1 Z k M o best r s < 0 → ∀ j, j < s → Fit Z M k j → o + r (stp Z M k j) ≠ best := by
  intro s
  induction s with
  | zero => intro _ j hj; omega
  | succ s ih =>
    intro h j hj hf he
    by_cases h0 : 0 ≤ ch1 Z k M o best r s
    · rw [ch1_keep h0] at h; omega
    · by_cases e : j = s
      · subst e
        rw [ch1_yes (by omega) hf he] at h
        omega
      · exact ih (by omega) j (by omega) hf he

theorem fb_en {Z : Nat → Int} {b : Bool} {n : Nat} {F : (Nat → Int) → Int} (hF : ∀ sd k (s : Nat), k < n → sd k = -1 → F (upS sd k s) = F sd + ow Z b k) :
    ∀ f k sd M a, k + f = n → (∀ i, k ≤ i → i < n → sd i = -1) → fbF F a (en Z f k sd M) = if a.1 < F sd + bst Z b f k M then (F sd + bst Z b f k M, gd Z b f k sd M) else a := by
  intro f
  induction f with
  | zero => intro k sd M a _ _; simp [en, bst, fbF_one, gd]
  | succ f ih =>
    intro k sd M a hk hsd
    have hv : ∀ (s : Nat) M a, fbF F a (en Z f (k + 1) (upS sd k s) M) = if a.1 < F sd + ow Z b k + bst Z b f (k + 1) M then (F sd + ow Z b k + bst Z b f (k + 1) M, gd Z b f (k + 1) (upS sd k s) M) else a := fun s M a => by
      have h := ih (k + 1) (upS sd k s) M a (by omega) (fun i h1 h2 => by unfold upS; rw [if_neg (by omega)]; exact hsd i (by omega) h2)
      rw [hF sd k s (by omega) (hsd k (by omega) (by omega))] at h
      exact h
    have hskip := fun a => ih (k + 1) sd M a (by omega) (fun i h1 h2 => hsd i (by omega) h2)
    obtain ⟨o, eo⟩ : ∃ o, ow Z b k = o := ⟨_, rfl⟩
    obtain ⟨c, ec⟩ : ∃ c, bst Z b f (k + 1) M = c := ⟨_, rfl⟩
    obtain ⟨V, eV⟩ : ∃ V, bst Z b (f + 1) k M = V := ⟨_, rfl⟩
    have eV2 : bs1 Z k M o c (bst Z b f (k + 1)) 4 = V := by rw [← eV, ← eo, ← ec]; rfl
    have hub : ∀ s : Nat, s < 4 → Fit Z M k s → o + bst Z b f (k + 1) (stp Z M k s) ≤ V := fun s hs hf => by rw [← eV2]; exact bs1_ub hs hf
    have hcV : c ≤ V := by rw [← eV2]; exact bs1_mono (Z := Z) (k := k) (M := M) (o := o) (c := c) (r := bst Z b f (k + 1)) 0 4 (by omega)
    have hgd : gd Z b (f + 1) k sd M = if ch1 Z k M o V (bst Z b f (k + 1)) 4 < 0 then gd Z b f (k + 1) sd M
      else gd Z b f (k + 1) (upS sd k (ch1 Z k M o V (bst Z b f (k + 1)) 4)) (stp Z M k (ch1 Z k M o V (bst Z b f (k + 1)) 4)) := by rw [← eV, ← eo]; rfl
    rw [eo] at hv
    rw [ec] at hskip
    rw [eV, hgd]
    simp only [en]
    rw [fbF_app]
    by_cases ha : a.1 < F sd + V
    · rw [if_pos ha]
      have key : ∀ s : Nat, s ≤ 4 → (ch1 Z k M o V (bst Z b f (k + 1)) s < 0 ∧ (fbF F a (en1 Z k sd M (en Z f (k + 1)) s)).1 < F sd + V) ∨
          ∃ s0 : Nat, ch1 Z k M o V (bst Z b f (k + 1)) s = s0 ∧ fbF F a (en1 Z k sd M (en Z f (k + 1)) s) = (F sd + V, gd Z b f (k + 1) (upS sd k s0) (stp Z M k s0)) := by
        intro s
        induction s with
        | zero => intro _; exact Or.inl ⟨by show (-1 : Int) < 0; omega, ha⟩
        | succ s ihs =>
          intro hs
          have hi := ihs (by omega)
          by_cases hf : Fit Z M k s
          · rw [en1_yes hf, fbF_app, hv]
            have hle := hub s (by omega) hf
            rcases hi with ⟨h1, h2⟩ | ⟨s0, h1, h2⟩
            · by_cases he : o + bst Z b f (k + 1) (stp Z M k s) = V
              · refine Or.inr ⟨s, ch1_yes h1 hf he, ?_⟩
                rw [show F sd + o + bst Z b f (k + 1) (stp Z M k s) = F sd + V by omega, if_pos h2]
              · refine Or.inl ⟨by rw [ch1_no h1 (fun h => he h.2)]; omega, ?_⟩
                split
                · show F sd + o + _ < _; omega
                · exact h2
            · refine Or.inr ⟨s0, by rw [ch1_keep (by omega), h1], ?_⟩
              rw [h2, if_neg (by show ¬ F sd + V < _; omega)]
          · rw [en1_no hf]
            rcases hi with ⟨h1, h2⟩ | ⟨s0, h1, h2⟩
            · exact Or.inl ⟨by rw [ch1_no h1 (fun h => hf h.1)]; omega, h2⟩
            · exact Or.inr ⟨s0, by rw [ch1_keep (by omega), h1], h2⟩
      rcases key 4 (by omega) with ⟨h1, h2⟩ | ⟨s0, h1, h2⟩
      · rw [if_pos h1, hskip]
        have hc : V = c := by
          rcases bs1_at (Z := Z) (k := k) (M := M) (o := o) (c := c) (r := bst Z b f (k + 1)) 4 with h | ⟨j, j1, j2, j3⟩
          · rw [eV2] at h; exact h
          · rw [eV2] at j3; exact absurd j3 (ch1_none 4 h1 j j1 j2)
        rw [← hc, if_pos h2]
      · rw [h2, hskip, if_neg (by show ¬ F sd + V < _; omega), h1, if_neg (by omega)]
    · rw [if_neg ha]
      have key : ∀ s : Nat, s ≤ 4 → fbF F a (en1 Z k sd M (en Z f (k + 1)) s) = a := by
        intro s
        induction s with
        | zero => intro _; rfl
        | succ s ihs =>
          intro hs
          have hi := ihs (by omega)
          by_cases hf : Fit Z M k s
          · have hle := hub s (by omega) hf
            rw [en1_yes hf, fbF_app, hi, hv, if_neg (by omega)]
          · rw [en1_no hf]; exact hi
      rw [key 4 (by omega), hskip, if_neg (by omega)]

end Go.Proofs.Ythelaffjpmcdbaa
