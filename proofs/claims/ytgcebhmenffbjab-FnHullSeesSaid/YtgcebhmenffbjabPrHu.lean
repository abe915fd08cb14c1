/- The hull in mathematics: next points of it see each other, its slopes fall. -/
import Derived.Test.YtgcebhmenffbjabPrQ
namespace Go.Proofs.Ytgcebhmenffbjab
set_option linter.unusedVariables false

theorem hu_core (zi zj za zb p q r : Int) (hp : 0 < p) (hq : 0 < q) (hr : 0 < r) (h1 : zj * (p + q + r) ≤ za * r + zb * (p + q)) (h2 : za * q + zj * p < zi * (p + q)) : zj * (q + r) ≤ zi * r + zb * q := by
  refine Decidable.byContradiction fun hc => ?_
  have hc' : zi * r + zb * q < zj * (q + r) := by omega
  have a1 := Int.mul_le_mul_of_nonneg_left h1 (Int.le_of_lt hq)
  have a2 := Int.mul_lt_mul_of_pos_left h2 hr
  have a3 := Int.mul_lt_mul_of_pos_left hc' (show 0 < p + q by omega)
  simp only [Int.mul_add, Int.mul_comm, Int.mul_left_comm] at a1 a2 a3
  omega
theorem und_left {z : Nat → Int} {a i j b : Nat} (h1 : a < i) (h2 : i < j) (h3 : j < b) (hi : ¬ Und z a (z a) j (z j) i) (hu : Und z a (z a) b (z b) j) : Und z i (z i) b (z b) j := by
  unfold Und at *
  have h := hu_core (z i) (z j) (z a) (z b) ((i : Int) - a) ((j : Int) - i) ((b : Int) - j) (by omega) (by omega) (by omega)
    (by rw [show (i : Int) - a + (j - i) + (b - j) = b - a by omega, show (i : Int) - a + (j - i) = j - a by omega]; exact hu)
    (by rw [show (i : Int) - a + (j - i) = j - a by omega]; omega)
  rwa [show (j : Int) - i + (b - j) = b - i by omega] at h
theorem und_right {z : Nat → Int} {a j k b : Nat} (h1 : a < j) (h2 : j < k) (h3 : k < b) (hk : ¬ Und z j (z j) b (z b) k) (hu : Und z a (z a) b (z b) j) : Und z a (z a) k (z k) j := by
  unfold Und at *
  have h := hu_core (z k) (z j) (z b) (z a) ((b : Int) - k) ((k : Int) - j) ((j : Int) - a) (by omega) (by omega) (by omega)
    (by rw [show (b : Int) - k + (k - j) + (j - a) = b - a by omega, show (b : Int) - k + (k - j) = b - j by omega]; omega)
    (by rw [show (b : Int) - k + (k - j) = b - j by omega]; omega)
  rw [show (k : Int) - j + (j - a) = k - a by omega] at h
  omega

/-- the height of a point above the line between two others, times their distance -/
def abv (z : Nat → Int) (i k : Nat) (x : Nat) : Int := z x * ((k : Int) - i) - (z i * ((k : Int) - x) + z k * ((x : Int) - i))
theorem abv_line (z : Nat → Int) (i k a b j : Nat) :
    (z i * ((k : Int) - j) + z k * ((j : Int) - i)) * ((b : Int) - a) = (z i * ((k : Int) - a) + z k * ((a : Int) - i)) * ((b : Int) - j) + (z i * ((k : Int) - b) + z k * ((b : Int) - i)) * ((j : Int) - a) := by
  simp only [Int.mul_sub, Int.sub_mul, Int.mul_add, Int.add_mul, Int.mul_assoc, Int.mul_comm, Int.mul_left_comm]
  omega
theorem abv_und {z : Nat → Int} {i k a b j : Nat} (hik : i < k) (hu : Und z a (z a) b (z b) j) : abv z i k j * ((b : Int) - a) ≤ abv z i k a * ((b : Int) - j) + abv z i k b * ((j : Int) - a) := by
  have h := Int.mul_le_mul_of_nonneg_left hu (show 0 ≤ (k : Int) - i by omega)
  have hl := abv_line z i k a b j
  unfold abv
  rw [Int.sub_mul, Int.sub_mul, Int.sub_mul, hl]
  have e1 : ((k : Int) - i) * (z j * ((b : Int) - a)) = z j * ((k : Int) - i) * ((b : Int) - a) := by rw [← Int.mul_assoc, Int.mul_comm ((k : Int) - i)]
  have e2 : ((k : Int) - i) * (z a * ((b : Int) - j) + z b * ((j : Int) - a)) = z a * ((k : Int) - i) * ((b : Int) - j) + z b * ((k : Int) - i) * ((j : Int) - a) := by
    rw [Int.mul_add, ← Int.mul_assoc, ← Int.mul_assoc, Int.mul_comm ((k : Int) - i) (z a), Int.mul_comm ((k : Int) - i) (z b)]
  rw [e1, e2] at h
  omega
theorem left_max (f : Nat → Int) (i : Nat) : ∀ d, ∃ j, i < j ∧ j ≤ i + 1 + d ∧ (∀ x, i < x → x ≤ i + 1 + d → f x ≤ f j) ∧ ∀ x, i < x → x < j → f x < f j := by
  intro d
  induction d with
  | zero => exact ⟨i + 1, by omega, by omega, fun x h1 h2 => by rw [show x = i + 1 by omega]; omega, fun x h1 h2 => by omega⟩
  | succ d ih =>
    obtain ⟨j, h1, h2, h3, h4⟩ := ih
    by_cases h : f j < f (i + 1 + (d + 1))
    · refine ⟨i + 1 + (d + 1), by omega, Nat.le_refl _, fun x a b => ?_, fun x a b => ?_⟩
      · by_cases e : x = i + 1 + (d + 1)
        · rw [e]; omega
        · have := h3 x a (by omega); omega
      · have := h3 x a (by omega); omega
    · refine ⟨j, h1, by omega, fun x a b => ?_, h4⟩
      by_cases e : x = i + 1 + (d + 1)
      · rw [e]; omega
      · exact h3 x a (by omega)
theorem hull_free {n : Nat} {z : Nat → Int} {i k : Nat} (hik : i < k) (hkn : k < n) (hi : Hul n z i) (hk : Hul n z k) (hno : ∀ x, i < x → x < k → ¬ Hul n z x) : Free z i (z i) k (z k) := by
  intro x0 hx1 hx2
  refine Classical.byContradiction fun hnu => ?_
  obtain ⟨j, j1, j2, j3, j4⟩ := left_max (abv z i k) i (k - i - 2)
  have hjk : j < k := by omega
  have hpos : 0 < abv z i k j := by
    have h1 := j3 x0 hx1 (by omega)
    have h2 : 0 < abv z i k x0 := by unfold abv; unfold Und at hnu; omega
    omega
  have f0 : abv z i k i = 0 := by unfold abv; rw [Int.sub_self, Int.mul_zero]; omega
  have f1 : abv z i k k = 0 := by unfold abv; rw [Int.sub_self, Int.mul_zero]; omega
  -- a line over j between points of i .. k
  have hin : ∀ a b, i ≤ a → a < j → j < b → b ≤ k → ¬ Und z a (z a) b (z b) j := fun a b h1 h2 h3 h4 hu => by
    have h := abv_und (i := i) (k := k) hik hu
    have ha : abv z i k a + 1 ≤ abv z i k j := by
      by_cases e : a = i
      · rw [e, f0]; omega
      · have := j4 a (by omega) h2; omega
    have hb : abv z i k b ≤ abv z i k j := by
      by_cases e : b = k
      · rw [e, f1]; omega
      · exact j3 b (by omega) (by omega)
    have m1 := Int.mul_le_mul_of_nonneg_right ha (show 0 ≤ (b : Int) - j by omega)
    have m2 := Int.mul_le_mul_of_nonneg_right hb (show 0 ≤ (j : Int) - a by omega)
    rw [Int.add_mul, Int.one_mul] at m1
    have e : abv z i k j * ((b : Int) - a) = abv z i k j * ((b : Int) - j) + abv z i k j * ((j : Int) - a) := by rw [← Int.mul_add]; congr 1; omega
    omega
  refine hno j j1 hjk (fun a b h1 h2 h3 hu => ?_)
  have key : ∃ a', i ≤ a' ∧ a' < j ∧ Und z a' (z a') b (z b) j := by
    by_cases h : i ≤ a
    · exact ⟨a, h, h1, hu⟩
    · exact ⟨i, Nat.le_refl _, j1, und_left (by omega) j1 h2 (hi a j (by omega) j1 (by omega)) hu⟩
  obtain ⟨a', g1, g2, g3⟩ := key
  by_cases h : b ≤ k
  · exact hin a' b g1 g2 h2 h g3
  · exact hin a' k g1 g2 hjk (Nat.le_refl _) (und_right g2 hjk (by omega) (hk j b hjk (by omega) h3) g3)

theorem nsZ_app (L : List Int) (x : Int) (m : Nat) : nsZ (L ++ [x]) m = if m = L.length then x else nsZ L m := by
  unfold nsZ
  rw [List.getD_eq_getElem?_getD, List.getD_eq_getElem?_getD]
  by_cases h : m < L.length
  · rw [List.getElem?_append_left h, if_neg (by omega)]
  · rw [List.getElem?_append_right (by omega)]
    by_cases e : m = L.length
    · rw [if_pos e, e]; simp
    · rw [if_neg e, List.getElem?_eq_none (by simp; omega), List.getElem?_eq_none (by omega)]
/-- two next points of the hull -/
def NextH (n : Nat) (z : Nat → Int) (i k : Nat) : Prop := i < k ∧ Hul n z i ∧ Hul n z k ∧ ∀ x, i < x → x < k → ¬ Hul n z x
theorem huL_adj (n : Nat) (z : Nat → Int) : ∀ k, (∀ m, m + 1 < (huL n z k).length → ∃ i j : Nat, nsZ (huL n z k) m = i ∧ nsZ (huL n z k) (m + 1) = j ∧ j < k ∧ NextH n z i j) ∧
    (0 < (huL n z k).length → ∃ i : Nat, nsZ (huL n z k) ((huL n z k).length - 1) = i ∧ i < k ∧ Hul n z i ∧ ∀ x, i < x → x < k → ¬ Hul n z x) := by
  intro k
  induction k with
  | zero => exact ⟨fun m h => by simp [huL] at h, fun h => by simp [huL] at h⟩
  | succ k ih =>
    obtain ⟨ih1, ih2⟩ := ih
    by_cases h : Hul n z k
    · rw [huL_yes h]
      obtain ⟨L, eL⟩ : ∃ L, huL n z k = L := ⟨_, rfl⟩
      rw [eL] at ih1 ih2 ⊢
      constructor
      · intro m hm
        simp at hm
        rw [nsZ_app, nsZ_app, if_neg (by omega)]
        by_cases e : m + 1 = L.length
        · rw [if_pos e]
          obtain ⟨i, a1, a2, a3, a4⟩ := ih2 (by omega)
          rw [show L.length - 1 = m by omega] at a1
          exact ⟨i, k, a1, rfl, by omega, a2, a3, h, a4⟩
        · rw [if_neg e]
          obtain ⟨i, j, a1, a2, a3, a4⟩ := ih1 m (by omega)
          exact ⟨i, j, a1, a2, by omega, a4⟩
      · intro _
        refine ⟨k, ?_, by omega, h, fun x a b => by omega⟩
        rw [nsZ_app, if_pos (by simp)]
    · rw [huL_no h]
      refine ⟨fun m hm => ?_, fun h0 => ?_⟩
      · obtain ⟨i, j, a1, a2, a3, a4⟩ := ih1 m hm
        exact ⟨i, j, a1, a2, by omega, a4⟩
      · obtain ⟨i, a1, a2, a3, a4⟩ := ih2 h0
        exact ⟨i, a1, by omega, a3, fun x b1 b2 => by
          by_cases e : x = k
          · rw [e]; exact h
          · exact a4 x b1 (by omega)⟩
theorem huL_first (n : Nat) (z : Nat → Int) : ∀ k, 0 < (huL n z (k + 1)).length ∧ nsZ (huL n z (k + 1)) 0 = 0 := by
  intro k
  induction k with
  | zero =>
    have h : Hul n z 0 := fun i k h => by omega
    rw [huL_yes h]
    exact ⟨by simp [huL], by simp [huL, nsZ]⟩
  | succ k ih =>
    by_cases h : Hul n z (k + 1)
    · rw [huL_yes h]
      refine ⟨by simp, ?_⟩
      rw [nsZ_app, if_neg (by omega)]; exact ih.2
    · rw [huL_no h]; exact ih
theorem huL_last (n : Nat) (z : Nat → Int) (hn : 1 ≤ n) : nsZ (huL n z n) ((huL n z n).length - 1) = (n : Int) - 1 := by
  obtain ⟨m, rfl⟩ : ∃ m, n = m + 1 := ⟨n - 1, by omega⟩
  have h : Hul (m + 1) z m := fun i k _ h1 h2 => by omega
  rw [huL_yes h, nsZ_app, if_pos (by simp)]
  omega
theorem huL_sees {n : Nat} {z : Nat → Int} {i k : Nat} (h : NextH n z i k) (hk : k < n) : Sees z i k 0 :=
  ⟨fun _ => by rw [Int.add_zero]; exact hull_free h.1 hk h.2.1 h.2.2.1 h.2.2.2, fun g => by have := h.1; omega⟩

end Go.Proofs.Ytgcebhmenffbjab
