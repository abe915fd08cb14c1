/- A heap by rank: what is reckoned. -/
import Derived.Test.YtepnhamkadkipaaPkM
namespace Go.Proofs.Ytepnhamkadkipaa
set_option linter.unusedVariables false

theorem hiB_irr (Z : Nat → Int) (a : Nat) : hiB Z a a = false := by
  unfold hiB; rw [decide_eq_false_iff_not]; omega
theorem hiB_iff {Z : Nat → Int} {a b : Nat} : hiB Z a b = true ↔ (Z b < Z a ∨ (Z a = Z b ∧ a < b)) := by unfold hiB; rw [decide_eq_true_iff]
theorem hiB_niff {Z : Nat → Int} {a b : Nat} : hiB Z a b = false ↔ ¬ (Z b < Z a ∨ (Z a = Z b ∧ a < b)) := by unfold hiB; rw [decide_eq_false_iff_not]
/-- not higher is transitive -/
theorem hiB_ntrans {Z : Nat → Int} {a b c : Nat} (h1 : hiB Z a b = false) (h2 : hiB Z b c = false) : hiB Z a c = false := by
  rw [hiB_niff] at *; omega
theorem hiB_asymm {Z : Nat → Int} {a b : Nat} (h : hiB Z a b = true) : hiB Z b a = false := by
  rw [hiB_iff] at h; rw [hiB_niff]; omega
theorem hiB_trans {Z : Nat → Int} {a b c : Nat} (h1 : hiB Z a b = true) (h2 : hiB Z b c = true) : hiB Z a c = true := by
  rw [hiB_iff] at *; omega
theorem hiB_tot {Z : Nat → Int} {a b : Nat} (h1 : hiB Z a b = false) (h2 : hiB Z b a = false) : a = b := by
  rw [hiB_niff] at *; omega

/-- none of n places is higher than the one that it hangs on -/
def HpOk (Z : Nat → Int) (f : Nat → Nat) (n : Nat) : Prop := ∀ k, 0 < k → k < n → hiB Z (f k) (f ((k - 1) / 2)) = false
/-- the same but at i, which may be too low -/
def UpOk (Z : Nat → Int) (f : Nat → Nat) (n i : Nat) : Prop :=
  (∀ k, 0 < k → k < n → k ≠ i → hiB Z (f k) (f ((k - 1) / 2)) = false) ∧ ∀ k, 0 < k → k < n → (k - 1) / 2 = i → 0 < i → hiB Z (f k) (f ((i - 1) / 2)) = false
/-- the same but below i, which may be too high -/
def DnOk (Z : Nat → Int) (f : Nat → Nat) (n i : Nat) : Prop :=
  (∀ k, 0 < k → k < n → (k - 1) / 2 ≠ i → hiB Z (f k) (f ((k - 1) / 2)) = false) ∧ ∀ k, 0 < k → k < n → (k - 1) / 2 = i → 0 < i → hiB Z (f k) (f ((i - 1) / 2)) = false

/-- two places exchanged -/
def swp (f : Nat → Nat) (i j k : Nat) : Nat := if k = i then f j else if k = j then f i else f k
theorem swp_l (f : Nat → Nat) (i j : Nat) : swp f i j i = f j := by simp [swp]
theorem swp_r (f : Nat → Nat) (i j : Nat) : swp f i j j = f i := by unfold swp; by_cases h : j = i <;> simp [h]
theorem swp_o {f : Nat → Nat} {i j k : Nat} (h1 : k ≠ i) (h2 : k ≠ j) : swp f i j k = f k := by simp [swp, h1, h2]

/-- what a heap's places hold -/
def InN (f : Nat → Nat) (n x : Nat) : Prop := ∃ k, k < n ∧ f k = x
def InjN (f : Nat → Nat) (n : Nat) : Prop := ∀ i j, i < n → j < n → f i = f j → i = j
theorem inN_swp {f : Nat → Nat} {n i j : Nat} (hi : i < n) (hj : j < n) (x : Nat) : InN (swp f i j) n x ↔ InN f n x := by
  have key : ∀ g : Nat → Nat, InN (swp g i j) n x → InN g n x := by
    rintro g ⟨k, hk, e⟩
    by_cases h1 : k = i
    · subst h1; rw [swp_l] at e; exact ⟨j, hj, e⟩
    · by_cases h2 : k = j
      · subst h2; rw [swp_r] at e; exact ⟨i, hi, e⟩
      · rw [swp_o h1 h2] at e; exact ⟨k, hk, e⟩
  refine ⟨key f, fun h => ?_⟩
  obtain ⟨k, hk, e⟩ := h
  by_cases h1 : k = i
  · subst h1; exact ⟨j, hj, by rw [swp_r]; exact e⟩
  · by_cases h2 : k = j
    · subst h2; exact ⟨i, hi, by rw [swp_l]; exact e⟩
    · exact ⟨k, hk, by rw [swp_o h1 h2]; exact e⟩
theorem injN_swp {f : Nat → Nat} {n i j : Nat} (hi : i < n) (hj : j < n) (h : InjN f n) : InjN (swp f i j) n := by
  intro a b ha hb e
  have key : ∀ c, c < n → ∃ d, d < n ∧ swp f i j c = f d ∧ d = (if c = i then j else if c = j then i else c) := by
    intro c hc
    by_cases h1 : c = i
    · subst h1; exact ⟨j, hj, swp_l _ _ _, by simp⟩
    · by_cases h2 : c = j
      · subst h2; exact ⟨i, hi, swp_r _ _ _, by simp [h1]⟩
      · exact ⟨c, hc, swp_o h1 h2, by simp [h1, h2]⟩
  obtain ⟨d1, l1, e1, q1⟩ := key a ha
  obtain ⟨d2, l2, e2, q2⟩ := key b hb
  have e3 := h d1 d2 l1 l2 (by rw [← e1, ← e2]; exact e)
  rw [q1, q2] at e3
  clear e e1 e2 q1 q2 key
  repeat' split at e3
  all_goals omega

theorem upOk_snoc {Z : Nat → Int} {f : Nat → Nat} {n : Nat} (h : HpOk Z f n) : UpOk Z f (n + 1) n := by
  refine ⟨fun k h1 h2 h3 => h k h1 (by omega), fun k h1 h2 h3 h4 => ?_⟩
  omega
theorem upOk_end {Z : Nat → Int} {f : Nat → Nat} {n i : Nat} (h : UpOk Z f n i) (hi : i = 0 ∨ hiB Z (f i) (f ((i - 1) / 2)) = false) : HpOk Z f n := by
  intro k h1 h2
  by_cases e : k = i
  · subst e
    rcases hi with h | h
    · omega
    · exact h
  · exact h.1 k h1 h2 e
theorem upOk_step {Z : Nat → Int} {f : Nat → Nat} {n i : Nat} (h : UpOk Z f n i) (h0 : 0 < i) (hn : i < n) (hi : hiB Z (f i) (f ((i - 1) / 2)) = true) : UpOk Z (swp f i ((i - 1) / 2)) n ((i - 1) / 2) := by
  obtain ⟨h1, h2⟩ := h
  have hu : (i - 1) / 2 < i := by omega
  refine ⟨fun k a1 a2 a3 => ?_, fun k a1 a2 a3 a4 => ?_⟩
  · by_cases e : k = i
    · subst e
      rw [swp_l, swp_r]
      exact hiB_asymm hi
    · rw [swp_o e a3]
      by_cases e2 : (k - 1) / 2 = i
      · rw [e2, swp_l]; exact h2 k a1 a2 e2 h0
      · by_cases e3 : (k - 1) / 2 = (i - 1) / 2
        · rw [e3, swp_r]
          have := h1 k a1 a2 e
          rw [e3] at this
          exact hiB_ntrans this (hiB_asymm hi)
        · rw [swp_o e2 e3]; exact h1 k a1 a2 e
  · have b1 : ((i - 1) / 2 - 1) / 2 ≠ i := by omega
    have b2 : ((i - 1) / 2 - 1) / 2 ≠ (i - 1) / 2 := by omega
    have b3 := h1 ((i - 1) / 2) a4 (by omega) (by omega)
    rw [swp_o b1 b2]
    by_cases e : k = i
    · subst e; rw [swp_l]; exact b3
    · have e2 : k ≠ (i - 1) / 2 := by omega
      rw [swp_o e e2]
      have := h1 k a1 a2 e
      rw [a3] at this
      exact hiB_ntrans this b3

theorem dnOk_end {Z : Nat → Int} {f : Nat → Nat} {n i : Nat} (h : DnOk Z f n i) (hi : ∀ k, (k = 2 * i + 1 ∨ k = 2 * i + 2) → k < n → hiB Z (f k) (f i) = false) : HpOk Z f n := by
  intro k h1 h2
  by_cases e : (k - 1) / 2 = i
  · rw [e]; exact hi k (by omega) h2
  · exact h.1 k h1 h2 e
theorem dnOk_step {Z : Nat → Int} {f : Nat → Nat} {n i m : Nat} (h : DnOk Z f n i) (hm : m = 2 * i + 1 ∨ m = 2 * i + 2) (hn : m < n) (hi : hiB Z (f m) (f i) = true)
    (hg : ∀ k, (k = 2 * i + 1 ∨ k = 2 * i + 2) → k < n → hiB Z (f k) (f m) = false) : DnOk Z (swp f i m) n m := by
  obtain ⟨h1, h2⟩ := h
  have hmi : i < m := by omega
  have hpm : (m - 1) / 2 = i := by omega
  refine ⟨fun k a1 a2 a3 => ?_, fun k a1 a2 a3 a4 => ?_⟩
  · by_cases e : (k - 1) / 2 = i
    · rw [e, swp_l]
      by_cases e2 : k = m
      · subst e2; rw [swp_r]; exact hiB_asymm hi
      · rw [swp_o (by omega) e2]; exact hg k (by omega) a2
    · rw [swp_o (k := (k - 1) / 2) e a3]
      by_cases e2 : k = i
      · subst e2
        rw [swp_l]
        exact h2 m (by omega) hn hpm a1
      · by_cases e3 : k = m
        · subst e3; omega
        · rw [swp_o e2 e3]; exact h1 k a1 a2 e
  · rw [hpm, swp_l, swp_o (by omega) (by omega)]
    have := h1 k a1 a2 (by omega)
    rwa [a3] at this

/-- the first place is the highest -/
theorem hpOk_top {Z : Nat → Int} {f : Nat → Nat} {n : Nat} (h : HpOk Z f n) : ∀ k, k < n → hiB Z (f k) (f 0) = false := by
  intro k
  induction k using Nat.strongRecOn with
  | ind k ih =>
    intro hk
    by_cases h0 : k = 0
    · subst h0; exact hiB_irr _ _
    · exact hiB_ntrans (h k (by omega) hk) (ih ((k - 1) / 2) (by omega) (by omega))
theorem hpOk_in {Z : Nat → Int} {f : Nat → Nat} {n x : Nat} (h : HpOk Z f n) (hx : InN f n x) : hiB Z x (f 0) = false := by
  obtain ⟨k, hk, e⟩ := hx
  rw [← e]; exact hpOk_top h k hk

/-- the last place moved to the first -/
def topF (f : Nat → Nat) (n k : Nat) : Nat := if k = 0 then f n else f k
theorem dnOk_top {Z : Nat → Int} {f : Nat → Nat} {n : Nat} (h : HpOk Z f (n + 1)) : DnOk Z (topF f n) n 0 := by
  refine ⟨fun k a1 a2 a3 => ?_, fun k a1 a2 a3 a4 => by omega⟩
  have e1 : topF f n k = f k := by unfold topF; rw [if_neg (by omega)]
  have e2 : topF f n ((k - 1) / 2) = f ((k - 1) / 2) := by unfold topF; rw [if_neg a3]
  rw [e1, e2]
  exact h k a1 (by omega)
theorem topF_inj {f : Nat → Nat} {n : Nat} (h : InjN f (n + 1)) : InjN (topF f n) n := by
  intro i j hi hj e
  unfold topF at e
  by_cases h1 : i = 0
  · rw [if_pos h1] at e
    by_cases h2 : j = 0
    · omega
    · rw [if_neg h2] at e
      have := h n j (by omega) (by omega) e
      omega
  · rw [if_neg h1] at e
    by_cases h2 : j = 0
    · rw [if_pos h2] at e
      have := h i n (by omega) (by omega) e
      omega
    · rw [if_neg h2] at e
      exact h i j (by omega) (by omega) e
theorem topF_in {f : Nat → Nat} {n : Nat} (h : InjN f (n + 1)) (x : Nat) : InN (topF f n) n x ↔ InN f (n + 1) x ∧ x ≠ f 0 := by
  constructor
  · rintro ⟨k, hk, e⟩
    unfold topF at e
    by_cases h1 : k = 0
    · rw [if_pos h1] at e
      exact ⟨⟨n, by omega, e⟩, fun e2 => by
        have := h n 0 (by omega) (by omega) (by rw [e, e2])
        omega⟩
    · rw [if_neg h1] at e
      exact ⟨⟨k, by omega, e⟩, fun e2 => by
        have := h k 0 (by omega) (by omega) (by rw [e, e2])
        omega⟩
  · rintro ⟨⟨k, hk, e⟩, hne⟩
    have hk0 : k ≠ 0 := fun e2 => by subst e2; exact hne e.symm
    by_cases h1 : k = n
    · subst h1
      exact ⟨0, by omega, by unfold topF; rw [if_pos rfl]; exact e⟩
    · exact ⟨k, by omega, by unfold topF; rw [if_neg hk0]; exact e⟩

/-- one place more -/
def putF (f : Nat → Nat) (n x k : Nat) : Nat := if k = n then x else f k
theorem putF_at (f : Nat → Nat) (n x : Nat) : putF f n x n = x := by simp [putF]
theorem putF_lt {f : Nat → Nat} {n x k : Nat} (h : k < n) : putF f n x k = f k := by unfold putF; rw [if_neg (by omega)]
theorem upOk_put {Z : Nat → Int} {f : Nat → Nat} {n : Nat} (x : Nat) (h : HpOk Z f n) : UpOk Z (putF f n x) (n + 1) n := by
  refine ⟨fun k h1 h2 h3 => ?_, fun k h1 h2 h3 h4 => by omega⟩
  rw [putF_lt (show k < n by omega), putF_lt (show (k - 1) / 2 < n by omega)]
  exact h k h1 (by omega)
theorem putF_in (f : Nat → Nat) (n x y : Nat) : InN (putF f n x) (n + 1) y ↔ InN f n y ∨ y = x := by
  constructor
  · rintro ⟨k, hk, e⟩
    by_cases h : k = n
    · subst h; rw [putF_at] at e; exact Or.inr e.symm
    · rw [putF_lt (by omega)] at e; exact Or.inl ⟨k, by omega, e⟩
  · rintro (⟨k, hk, e⟩ | e)
    · exact ⟨k, by omega, by rw [putF_lt hk]; exact e⟩
    · exact ⟨n, by omega, by rw [putF_at, e]⟩
theorem putF_inj {f : Nat → Nat} {n x : Nat} (h : InjN f n) (hx : ¬ InN f n x) : InjN (putF f n x) (n + 1) := by
  intro i j hi hj e
  by_cases h1 : i = n
  · by_cases h2 : j = n
    · omega
    · rw [h1, putF_at, putF_lt (show j < n by omega)] at e
      exact absurd ⟨j, by omega, e.symm⟩ hx
  · by_cases h2 : j = n
    · rw [h2, putF_at, putF_lt (show i < n by omega)] at e
      exact absurd ⟨i, by omega, e⟩ hx
    · rw [putF_lt (show i < n by omega), putF_lt (show j < n by omega)] at e
      exact h i j (by omega) (by omega) e

/-- f is a heap of the cells of S -/
structure HpS (Z : Nat → Int) (f : Nat → Nat) (n : Nat) (S : Nat → Prop) : Prop where
  ok : HpOk Z f n
  inj : InjN f n
  mem : ∀ x, S x ↔ InN f n x

end Go.Proofs.Ytepnhamkadkipaa
