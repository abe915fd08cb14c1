/- Peaks: what is reckoned. -/
import Derived.Test.YtcfeckpbjdipeaaM3
namespace Go.Proofs.Ytcfeckpbjdipeaa
set_option linter.unusedVariables false

/-- a is ranked higher than b -/
def hiB (Z : Nat → Int) (a b : Nat) : Bool := decide (Z b < Z a ∨ (Z a = Z b ∧ a < b))
theorem hiB_gt {Z : Nat → Int} {a b : Nat} (h : Z b < Z a) : hiB Z a b = true := by simp [hiB, h]
theorem hiB_lt {Z : Nat → Int} {a b : Nat} (h : Z a < Z b) : hiB Z a b = false := by
  unfold hiB; rw [decide_eq_false_iff_not]; omega
theorem hiB_eq {Z : Nat → Int} {a b : Nat} (h : Z a = Z b) : hiB Z a b = decide (a < b) := by
  unfold hiB
  by_cases e : a < b
  · rw [decide_eq_true (Or.inr ⟨h, e⟩), decide_eq_true e]
  · rw [decide_eq_false (by omega), decide_eq_false e]

/-- no cell of a list is ranked higher than i -/
def pkL {M : Nat} (Z : Nat → Int) (i : Nat) (l : List (Ix M)) : Bool := l.all fun x => !hiB Z x.1 i
theorem pkL_nil {M : Nat} (Z : Nat → Int) (i : Nat) : pkL Z i ([] : List (Ix M)) = true := rfl
theorem pkL_snoc {M : Nat} (Z : Nat → Int) (i : Nat) (l : List (Ix M)) (x : Ix M) : pkL Z i (l ++ [x]) = (pkL Z i l && !hiB Z x.1 i) := by simp [pkL]
theorem pkL_step {M : Nat} {Z : Nat → Int} {i : Nat} {l : List (Ix M)} {x : Ix M} (h : pkL Z i l = true) (e : hiB Z x.1 i = false) : pkL Z i (l ++ [x]) = true := by rw [pkL_snoc, h, e]; rfl
theorem pkL_hit {M : Nat} {Z : Nat → Int} {i : Nat} {l : List (Ix M)} {x : Ix M} (hx : x ∈ l) (e : hiB Z x.1 i = true) : pkL Z i l = false := by
  unfold pkL
  rw [List.all_eq_false]
  exact ⟨x, hx, by simp [e]⟩

def pkQ (R C : Nat) (Z : Nat → Int) (i : Ix (R * C)) : Bool := pkL Z i.1 (near R C i 4)

/-- the lists are a grid, and the cell is a peak -/
def G.PkIn (g : G) (i : Int) : Prop := g.Valid ∧ 0 ≤ i ∧ i < (g.n * g.len 0 : Nat)
open Classical in
noncomputable def G.pkB (g : G) (i : Int) : Bool := if h : g.PkIn i then pkQ g.n (g.len 0) g.flat ⟨i.toNat, by have := h.2; omega⟩ else false
theorem G.pkB_no {g : G} {i : Int} (h : ¬ g.PkIn i) : g.pkB i = false := by unfold G.pkB; rw [dif_neg h]
theorem G.pkB_yes {g : G} {i : Ix (g.n * g.len 0)} (h : g.Valid) : g.pkB (i.1 : Int) = pkQ g.n (g.len 0) g.flat i := by
  have hp : g.PkIn (i.1 : Int) := ⟨h, by omega, by have := i.2; omega⟩
  unfold G.pkB
  rw [dif_pos hp]
  congr 1

end Go.Proofs.Ytcfeckpbjdipeaa

/- A heap by rank: what is reckoned. -/
namespace Go.Proofs.Ytcfeckpbjdipeaa
set_option linter.unusedVariables false

theorem hiB_irr (Z : Nat → Int) (a : Nat) : hiB Z a a = false := by
  unfold hiB; rw [decide_eq_false_iff_not]; omega
theorem hiB_iff {Z : Nat → Int} {a b : Nat} : hiB Z a b = true ↔ (Z b < Z a ∨ (Z a = Z b ∧ a < b)) := by unfold hiB; rw [decide_eq_true_iff]
theorem hiB_niff {Z : Nat → Int} {a b : Nat} : hiB Z a b = false ↔ ¬ (Z b < Z a ∨ (Z a = Z b ∧ a < b)) := by unfold hiB; rw [decide_eq_false_iff_not]
/-- not higher is transitive -/
theorem hiB_ntrans {Z : Nat → Int} {a b c : Nat} (h1 : hiB Z a b = false) (h2 : hiB Z b c = false) : hiB Z a c = false := by
  rw [hiB_niff] at *; omega
theorem hiB_asymm {Z : Nat → Int} {a b : Nat} (h : hiB Z a b = true) : hiB Z b a = false := by
  rw [hiB_iff] at h; rw [hiB_niff]; omega
theorem hiB_trans {Z : Nat → Int} {a b c : Nat} (h1 : hiB Z a b = true) (h2 : hiB Z b c = true) : hiB Z a c = true := by
  rw [hiB_iff] at *; omega
theorem hiB_tot {Z : Nat → Int} {a b : Nat} (h1 : hiB Z a b = false) (h2 : hiB Z b a = false) : a = b := by
  rw [hiB_niff] at *; omega

/-- none of n places is higher than the one that it hangs on -/
def HpOk (Z : Nat → Int) (f : Nat → Nat) (n : Nat) : Prop := ∀ k, 0 < k → k < n → hiB Z (f k) (f ((k - 1) / 2)) = false
/-- the same but at i, which may be too low -/
def UpOk (Z : Nat → Int) (f : Nat → Nat) (n i : Nat) : Prop :=
  (∀ k, 0 < k → k < n → k ≠ i → hiB Z (f k) (f ((k - 1) / 2)) = false) ∧ ∀ k, 0 < k → k < n → (k - 1) / 2 = i → 0 < i → hiB Z (f k) (f ((i - 1) / 2)) = false
/-- the same but below i, which may be too high -/
def DnOk (Z : Nat → Int) (f : Nat → Nat) (n i : Nat) : Prop :=
  (∀ k, 0 < k → k < n → (k - 1) / 2 ≠ i → hiB Z (f k) (f ((k - 1) / 2)) = false) ∧ ∀ k, 0 < k → k < n → (k - 1) / 2 = i → 0 < i → hiB Z (f k) (f ((i - 1) / 2)) = false

/-- two places exchanged -/
def swp (f : Nat → Nat) (i j k : Nat) : Nat := if k = i then f j else if k = j then f i else f k
theorem swp_l (f : Nat → Nat) (i j : Nat) : swp f i j i = f j := by simp [swp]
theorem swp_r (f : Nat → Nat) (i j : Nat) : swp f i j j = f i := by unfold swp; by_cases h : j = i <;> simp [h]
theorem swp_o {f : Nat → Nat} {i j k : Nat} (h1 : k ≠ i) (h2 : k ≠ j) : swp f i j k = f k := by simp [swp, h1, h2]

/-- what a heap's places hold -/
def InN (f : Nat → Nat) (n x : Nat) : Prop := ∃ k, k < n ∧ f k = x
def InjN (f : Nat → Nat) (n : Nat) : Prop := ∀ i j, i < n → j < n → f i = f j → i = j
theorem inN_swp {f : Nat → Nat} {n i j : Nat} (hi : i < n) (hj : j < n) (x : Nat) : InN (swp f i j) n x ↔ InN f n x := by
  have key : ∀ g : Nat → Nat, InN (swp g i j) n x → InN g n x := by
    rintro g ⟨k, hk, e⟩
    by_cases h1 : k = i
    · subst h1; rw [swp_l] at e; exact ⟨j, hj, e⟩
    · by_cases h2 : k = j
      · subst h2; rw [swp_r] at e; exact ⟨i, hi, e⟩
      · rw [swp_o h1 h2] at e; exact ⟨k, hk, e⟩
  refine ⟨key f, fun h => ?_⟩
  obtain ⟨k, hk, e⟩ := h
  by_cases h1 : k = i
  · subst h1; exact ⟨j, hj, by rw [swp_r]; exact e⟩
  · by_cases h2 : k = j
    · subst h2; exact ⟨i, hi, by rw [swp_l]; exact e⟩
    · exact ⟨k, hk, by rw [swp_o h1 h2]; exact e⟩
theorem injN_swp {f : Nat → Nat} {n i j : Nat} (hi : i < n) (hj : j < n) (h : InjN f n) : InjN (swp f i j) n := by
  intro a b ha hb e
  have key : ∀ c, c < n → ∃ d, d < n ∧ swp f i j c = f d ∧ d = (if c = i then j else if c = j then i else c) := by
    intro c hc
    by_cases h1 : c = i
    · subst h1; exact ⟨j, hj, swp_l _ _ _, by simp⟩
    · by_cases h2 : c = j
      · subst h2; exact ⟨i, hi, swp_r _ _ _, by simp [h1]⟩
      · exact ⟨c, hc, swp_o h1 h2, by simp [h1, h2]⟩
  obtain ⟨d1, l1, e1, q1⟩ := key a ha
  obtain ⟨d2, l2, e2, q2⟩ := key b hb
  have e3 := h d1 d2 l1 l2 (by rw [← e1, ← e2]; exact e)
  rw [q1, q2] at e3
  clear e e1 e2 q1 q2 key
  repeat' split at e3
  all_goals omega

theorem upOk_snoc {Z : Nat → Int} {f : Nat → Nat} {n : Nat} (h : HpOk Z f n) : UpOk Z f (n + 1) n := by
  refine ⟨fun k h1 h2 h3 => h k h1 (by omega), fun k h1 h2 h3 h4 => ?_⟩
  omega
theorem upOk_end {Z : Nat → Int} {f : Nat → Nat} {n i : Nat} (h : UpOk Z f n i) (hi : i = 0 ∨ hiB Z (f i) (f ((i - 1) / 2)) = false) : HpOk Z f n := by
  intro k h1 h2
  by_cases e : k = i
  · subst e
    rcases hi with h | h
    · omega
    · exact h
  · exact h.1 k h1 h2 e
theorem upOk_step {Z : Nat → Int} {f : Nat → Nat} {n i : Nat} (h : UpOk Z f n i) (h0 : 0 < i) (hn : i < n) (hi : hiB Z (f i) (f ((i - 1) / 2)) = true) : UpOk Z (swp f i ((i - 1) / 2)) n ((i - 1) / 2) := by
  obtain ⟨h1, h2⟩ := h
  have hu : (i - 1) / 2 < i := by omega
  refine ⟨fun k a1 a2 a3 => ?_, fun k a1 a2 a3 a4 => ?_⟩
  · by_cases e : k = i
    · subst e
      rw [swp_l, swp_r]
      exact hiB_asymm hi
    · rw [swp_o e a3]
      by_cases e2 : (k - 1) / 2 = i
      · rw [e2, swp_l]; exact h2 k a1 a2 e2 h0
      · by_cases e3 : (k - 1) / 2 = (i - 1) / 2
        · rw [e3, swp_r]
          have := h1 k a1 a2 e
          rw [e3] at this
          exact hiB_ntrans this (hiB_asymm hi)
        · rw [swp_o e2 e3]; exact h1 k a1 a2 e
  · have b1 : ((i - 1) / 2 - 1) / 2 ≠ i := by omega
    have b2 : ((i - 1) / 2 - 1) / 2 ≠ (i - 1) / 2 := by omega
    have b3 := h1 ((i - 1) / 2) a4 (by omega) (by omega)
    rw [swp_o b1 b2]
    by_cases e : k = i
    · subst e; rw [swp_l]; exact b3
    · have e2 : k ≠ (i - 1) / 2 := by omega
      rw [swp_o e e2]
      have := h1 k a1 a2 e
      rw [a3] at this
      exact hiB_ntrans this b3

theorem dnOk_end {Z : Nat → Int} {f : Nat → Nat} {n i : Nat} (h : DnOk Z f n i) (hi : ∀ k, (k = 2 * i + 1 ∨ k = 2 * i + 2) → k < n → hiB Z (f k) (f i) = false) : HpOk Z f n := by
  intro k h1 h2
  by_cases e : (k - 1) / 2 = i
  · rw [e]; exact hi k (by omega) h2
  · exact h.1 k h1 h2 e
theorem dnOk_step {Z : Nat → Int} {f : Nat → Nat} {n i m : Nat} (h : DnOk Z f n i) (hm : m = 2 * i + 1 ∨ m = 2 * i + 2) (hn : m < n) (hi : hiB Z (f m) (f i) = true)
    (hg : ∀ k, (k = 2 * i + 1 ∨ k = 2 * i + 2) → k < n → hiB Z (f k) (f m) = false) : DnOk Z (swp f i m) n m := by
  obtain ⟨h1, h2⟩ := h
  have hmi : i < m := by omega
  have hpm : (m - 1) / 2 = i := by omega
  refine ⟨fun k a1 a2 a3 => ?_, fun k a1 a2 a3 a4 => ?_⟩
  · by_cases e : (k - 1) / 2 = i
    · rw [e, swp_l]
      by_cases e2 : k = m
      · subst e2; rw [swp_r]; exact hiB_asymm hi
      · rw [swp_o (by omega) e2]; exact hg k (by omega) a2
    · rw [swp_o (k := (k - 1) / 2) e a3]
      by_cases e2 : k = i
      · subst e2
        rw [swp_l]
        exact h2 m (by omega) hn hpm a1
      · by_cases e3 : k = m
        · subst e3; omega
        · rw [swp_o e2 e3]; exact h1 k a1 a2 e
  · rw [hpm, swp_l, swp_o (by omega) (by omega)]
    have := h1 k a1 a2 (by omega)
    rwa [a3] at this

/-- the first place is the highest -/
theorem hpOk_top {Z : Nat → Int} {f : Nat → Nat} {n : Nat} (h : HpOk Z f n) : ∀ k, k < n → hiB Z (f k) (f 0) = false := by
  intro k
  induction k using Nat.strongRecOn with
  | ind k ih =>
    intro hk
    by_cases h0 : k = 0
    · subst h0; exact hiB_irr _ _
    · exact hiB_ntrans (h k (by omega) hk) (ih ((k - 1) / 2) (by omega) (by omega))
theorem hpOk_in {Z : Nat → Int} {f : Nat → Nat} {n x : Nat} (h : HpOk Z f n) (hx : InN f n x) : hiB Z x (f 0) = false := by
  obtain ⟨k, hk, e⟩ := hx
  rw [← e]; exact hpOk_top h k hk

/-- the last place moved to the first -/
def topF (f : Nat → Nat) (n k : Nat) : Nat := if k = 0 then f n else f k
theorem dnOk_top {Z : Nat → Int} {f : Nat → Nat} {n : Nat} (h : HpOk Z f (n + 1)) : DnOk Z (topF f n) n 0 := by
  refine ⟨fun k a1 a2 a3 => ?_, fun k a1 a2 a3 a4 => by omega⟩
  have e1 : topF f n k = f k := by unfold topF; rw [if_neg (by omega)]
  have e2 : topF f n ((k - 1) / 2) = f ((k - 1) / 2) := by unfold topF; rw [if_neg a3]
  rw [e1, e2]
  exact h k a1 (by omega)
theorem topF_inj {f : Nat → Nat} {n : Nat} (h : InjN f (n + 1)) : InjN (topF f n) n := by
  intro i j hi hj e
  unfold topF at e
  by_cases h1 : i = 0
  · rw [if_pos h1] at e
    by_cases h2 : j = 0
    · omega
    · rw [if_neg h2] at e
      have := h n j (by omega) (by omega) e
      omega
  · rw [if_neg h1] at e
    by_cases h2 : j = 0
    · rw [if_pos h2] at e
      have := h i n (by omega) (by omega) e
      omega
    · rw [if_neg h2] at e
      exact h i j (by omega) (by omega) e
theorem topF_in {f : Nat → Nat} {n : Nat} (h : InjN f (n + 1)) (x : Nat) : InN (topF f n) n x ↔ InN f (n + 1) x ∧ x ≠ f 0 := by
  constructor
  · rintro ⟨k, hk, e⟩
    unfold topF at e
    by_cases h1 : k = 0
    · rw [if_pos h1] at e
      exact ⟨⟨n, by omega, e⟩, fun e2 => by
        have := h n 0 (by omega) (by omega) (by rw [e, e2])
        omega⟩
    · rw [if_neg h1] at e
      exact ⟨⟨k, by omega, e⟩, fun e2 => by
        have := h k 0 (by omega) (by omega) (by rw [e, e2])
        omega⟩
  · rintro ⟨⟨k, hk, e⟩, hne⟩
    have hk0 : k ≠ 0 := fun e2 => by subst e2; exact hne e.symm
    by_cases h1 : k = n
    · subst h1
      exact ⟨0, by omega, by unfold topF; rw [if_pos rfl]; exact e⟩
    · exact ⟨k, by omega, by unfold topF; rw [if_neg hk0]; exact e⟩

/-- one place more -/
def putF (f : Nat → Nat) (n x k : Nat) : Nat := if k = n then x else f k
theorem putF_at (f : Nat → Nat) (n x : Nat) : putF f n x n = x := by simp [putF]
theorem putF_lt {f : Nat → Nat} {n x k : Nat} (h : k < n) : putF f n x k = f k := by unfold putF; rw [if_neg (by omega)]
theorem upOk_put {Z : Nat → Int} {f : Nat → Nat} {n : Nat} (x : Nat) (h : HpOk Z f n) : UpOk Z (putF f n x) (n + 1) n := by
  refine ⟨fun k h1 h2 h3 => ?_, fun k h1 h2 h3 h4 => by omega⟩
  rw [putF_lt (show k < n by omega), putF_lt (show (k - 1) / 2 < n by omega)]
  exact h k h1 (by omega)
theorem putF_in (f : Nat → Nat) (n x y : Nat) : InN (putF f n x) (n + 1) y ↔ InN f n y ∨ y = x := by
  constructor
  · rintro ⟨k, hk, e⟩
    by_cases h : k = n
    · subst h; rw [putF_at] at e; exact Or.inr e.symm
    · rw [putF_lt (by omega)] at e; exact Or.inl ⟨k, by omega, e⟩
  · rintro (⟨k, hk, e⟩ | e)
    · exact ⟨k, by omega, by rw [putF_lt hk]; exact e⟩
    · exact ⟨n, by omega, by rw [putF_at, e]⟩
theorem putF_inj {f : Nat → Nat} {n x : Nat} (h : InjN f n) (hx : ¬ InN f n x) : InjN (putF f n x) (n + 1) := by
  intro i j hi hj e
  by_cases h1 : i = n
  · by_cases h2 : j = n
    · omega
    · rw [h1, putF_at, putF_lt (show j < n by omega)] at e
      exact absurd ⟨j, by omega, e.symm⟩ hx
  · by_cases h2 : j = n
    · rw [h2, putF_at, putF_lt (show i < n by omega)] at e
      exact absurd ⟨i, by omega, e⟩ hx
    · rw [putF_lt (show i < n by omega), putF_lt (show j < n by omega)] at e
      exact h i j (by omega) (by omega) e

/-- f is a heap of the cells of S -/
structure HpS (Z : Nat → Int) (f : Nat → Nat) (n : Nat) (S : Nat → Prop) : Prop where
  ok : HpOk Z f n
  inj : InjN f n
  mem : ∀ x, S x ↔ InN f n x

end Go.Proofs.Ytcfeckpbjdipeaa

/- The list of the peaks by rank: what is reckoned. -/
namespace Go.Proofs.Ytcfeckpbjdipeaa
set_option linter.unusedVariables false

/-- i put in its place by rank -/
def insR {M : Nat} (Z : Nat → Int) (i : Ix M) : List (Ix M) → List (Ix M)
  | [] => [i]
  | a :: t => if hiB Z a.1 i.1 = true then a :: insR Z i t else i :: a :: t
theorem insR_at {M : Nat} {Z : Nat → Int} {i : Ix M} : ∀ {l : List (Ix M)} {k : Nat}, k ≤ l.length → (∀ j (h : j < l.length), j < k → hiB Z (l[j]).1 i.1 = true) → (∀ h : k < l.length, hiB Z (l[k]).1 i.1 = false) → insR Z i l = l.take k ++ i :: l.drop k
  | [], k, hk, _, _ => by
    have : k = 0 := by simpa using hk
    subst this
    rfl
  | a :: t, 0, _, _, h2 => by
    have := h2 (by simp)
    simp only [List.getElem_cons_zero] at this
    unfold insR
    rw [if_neg (by rw [this]; simp)]
    rfl
  | a :: t, k + 1, hk, h1, h2 => by
    have h3 := h1 0 (by simp) (by omega)
    simp only [List.getElem_cons_zero] at h3
    unfold insR
    rw [if_pos h3, insR_at (l := t) (k := k) (by simpa using hk) (fun j h hj => by have := h1 (j + 1) (by simpa using h) (by omega); simpa using this) (fun h => by have := h2 (by simpa using h); simpa using this)]
    rfl
theorem insR_mem {M : Nat} {Z : Nat → Int} {i x : Ix M} : ∀ {l : List (Ix M)}, x ∈ insR Z i l ↔ x = i ∨ x ∈ l
  | [] => by simp [insR]
  | a :: t => by
    unfold insR
    by_cases h : hiB Z a.1 i.1 = true
    · rw [if_pos h]
      simp only [List.mem_cons, insR_mem (l := t)]
      constructor
      · rintro (h | h | h)
        · exact Or.inr (Or.inl h)
        · exact Or.inl h
        · exact Or.inr (Or.inr h)
      · rintro (h | h | h)
        · exact Or.inr (Or.inl h)
        · exact Or.inl h
        · exact Or.inr (Or.inr h)
    · rw [if_neg h]; simp
theorem insR_len {M : Nat} {Z : Nat → Int} {i : Ix M} : ∀ {l : List (Ix M)}, (insR Z i l).length = l.length + 1
  | [] => rfl
  | a :: t => by
    unfold insR
    by_cases h : hiB Z a.1 i.1 = true
    · rw [if_pos h]; simp [insR_len (l := t)]
    · rw [if_neg h]; simp

/-- sorted by rank -/
def ByRk {M : Nat} (Z : Nat → Int) (l : List (Ix M)) : Prop := l.Pairwise fun a b => hiB Z a.1 b.1 = true
theorem insR_rk {M : Nat} {Z : Nat → Int} {i : Ix M} : ∀ {l : List (Ix M)}, ByRk Z l → i ∉ l → ByRk Z (insR Z i l)
  | [], _, _ => by simp [insR, ByRk]
  | a :: t, h, hi => by
    unfold ByRk at h
    rw [List.pairwise_cons] at h
    unfold insR
    by_cases h1 : hiB Z a.1 i.1 = true
    · rw [if_pos h1]
      have ih := insR_rk (i := i) (l := t) h.2 (fun k => hi (List.mem_cons_of_mem _ k))
      unfold ByRk at ih ⊢
      rw [List.pairwise_cons]
      refine ⟨fun b hb => ?_, ih⟩
      rcases insR_mem.1 hb with e | e
      · rw [e]; exact h1
      · exact h.1 b e
    · rw [if_neg h1]
      unfold ByRk
      rw [List.pairwise_cons, List.pairwise_cons]
      have h2 : hiB Z i.1 a.1 = true := by
        rcases hb : hiB Z i.1 a.1 with _ | _
        · exact absurd (Subtype.ext (hiB_tot hb (by simpa using h1)) : i = a) (fun e => hi (by rw [e]; simp))
        · rfl
      refine ⟨fun b hb => ?_, h.1, h.2⟩
      rcases List.mem_cons.1 hb with e | e
      · rw [e]; exact h2
      · exact hiB_trans h2 (h.1 b e)
/-- two lists by rank of the same cells are the same -/
theorem byRk_eq {M : Nat} {Z : Nat → Int} : ∀ {l m : List (Ix M)}, ByRk Z l → ByRk Z m → (∀ x, x ∈ l ↔ x ∈ m) → l = m
  | [], [], _, _, _ => rfl
  | [], b :: s, _, _, h => by have := (h b).2 (by simp); simp at this
  | a :: t, [], _, _, h => by have := (h a).1 (by simp); simp at this
  | a :: t, b :: s, h1, h2, h => by
    unfold ByRk at h1 h2
    rw [List.pairwise_cons] at h1 h2
    have e : a = b := by
      rcases List.mem_cons.1 ((h a).1 (by simp)) with e | e
      · exact e
      · rcases List.mem_cons.1 ((h b).2 (by simp)) with e2 | e2
        · exact e2.symm
        · have k1 := h2.1 a e
          have k2 := h1.1 b e2
          rw [hiB_asymm k1] at k2
          cases k2
    subst e
    congr 1
    refine byRk_eq (l := t) (m := s) h1.2 h2.2 (fun x => ?_)
    constructor
    · intro hx
      rcases List.mem_cons.1 ((h x).1 (List.mem_cons_of_mem _ hx)) with e | e
      · rw [e] at hx
        have k := h1.1 a hx
        rw [hiB_irr] at k
        cases k
      · exact e
    · intro hx
      rcases List.mem_cons.1 ((h x).2 (List.mem_cons_of_mem _ hx)) with e | e
      · rw [e] at hx
        have k := h2.1 a hx
        rw [hiB_irr] at k
        cases k
      · exact e

/-- the peaks below k by rank -/
def rkL (R C : Nat) (Z : Nat → Int) : Nat → List (Ix (R * C))
  | 0 => []
  | k + 1 => if h : k < R * C then (if pkQ R C Z ⟨k, h⟩ = true then insR Z ⟨k, h⟩ (rkL R C Z k) else rkL R C Z k) else rkL R C Z k
theorem rkL_yes {R C : Nat} {Z : Nat → Int} (i : Ix (R * C)) (h : pkQ R C Z i = true) : rkL R C Z (i.1 + 1) = insR Z i (rkL R C Z i.1) := by
  show (if h : i.1 < R * C then _ else _) = _
  rw [dif_pos i.2, if_pos h]
theorem rkL_no {R C : Nat} {Z : Nat → Int} (i : Ix (R * C)) (h : pkQ R C Z i = false) : rkL R C Z (i.1 + 1) = rkL R C Z i.1 := by
  show (if h : i.1 < R * C then _ else _) = _
  rw [dif_pos i.2, if_neg (by show ¬ pkQ R C Z i = true; rw [h]; simp)]
theorem rkL_mem {R C : Nat} {Z : Nat → Int} : ∀ {k : Nat}, k ≤ R * C → ∀ x : Ix (R * C), x ∈ rkL R C Z k ↔ x.1 < k ∧ pkQ R C Z x = true
  | 0, _, x => by simp [rkL]
  | k + 1, hk, x => by
    have ih := rkL_mem (R := R) (C := C) (Z := Z) (k := k) (by omega) x
    by_cases h : pkQ R C Z ⟨k, by omega⟩ = true
    · rw [rkL_yes (R := R) (C := C) (Z := Z) ⟨k, by omega⟩ h, insR_mem, ih]
      constructor
      · rintro (e | ⟨e1, e2⟩)
        · rw [e]; exact ⟨Nat.lt_succ_self k, h⟩
        · exact ⟨by omega, e2⟩
      · rintro ⟨e1, e2⟩
        by_cases e : x.1 = k
        · exact Or.inl (Subtype.ext e)
        · exact Or.inr ⟨by omega, e2⟩
    · have h' : pkQ R C Z ⟨k, by omega⟩ = false := by simpa using h
      rw [rkL_no (R := R) (C := C) (Z := Z) ⟨k, by omega⟩ h', ih]
      constructor
      · rintro ⟨e1, e2⟩; exact ⟨by omega, e2⟩
      · rintro ⟨e1, e2⟩
        refine ⟨?_, e2⟩
        by_cases e : x.1 = k
        · have : x = ⟨k, by omega⟩ := Subtype.ext e
          rw [this] at e2
          exact absurd e2 h
        · omega
theorem rkL_rk {R C : Nat} {Z : Nat → Int} : ∀ {k : Nat}, k ≤ R * C → ByRk Z (rkL R C Z k)
  | 0, _ => List.Pairwise.nil
  | k + 1, hk => by
    have ih := rkL_rk (R := R) (C := C) (Z := Z) (k := k) (by omega)
    by_cases h : pkQ R C Z ⟨k, by omega⟩ = true
    · rw [rkL_yes (R := R) (C := C) (Z := Z) ⟨k, by omega⟩ h]
      refine insR_rk ih (fun hm => ?_)
      have := ((rkL_mem (Z := Z) (show k ≤ R * C by omega) _).1 hm).1
      exact Nat.lt_irrefl _ this
    · have h' : pkQ R C Z ⟨k, by omega⟩ = false := by simpa using h
      rw [rkL_no (R := R) (C := C) (Z := Z) ⟨k, by omega⟩ h']
      exact ih
theorem rkL_len {R C : Nat} {Z : Nat → Int} : ∀ {k : Nat}, (rkL R C Z k).length ≤ k
  | 0 => Nat.le_refl _
  | k + 1 => by
    have ih := rkL_len (R := R) (C := C) (Z := Z) (k := k)
    unfold rkL
    split
    · split
      · rw [insR_len]; omega
      · omega
    · omega

open Classical in
noncomputable def G.rkV (g : G) : List (Ix (g.n * g.len 0)) := if g.Valid then rkL g.n (g.len 0) g.flat (g.n * g.len 0) else []
theorem G.rkV_yes {g : G} (h : g.Valid) : g.rkV = rkL g.n (g.len 0) g.flat (g.n * g.len 0) := by unfold G.rkV; rw [if_pos h]
theorem G.rkV_no {g : G} (h : ¬ g.Valid) : g.rkV = [] := by unfold G.rkV; rw [if_neg h]

end Go.Proofs.Ytcfeckpbjdipeaa
