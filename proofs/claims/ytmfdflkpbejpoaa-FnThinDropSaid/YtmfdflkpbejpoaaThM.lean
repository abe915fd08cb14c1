/- Thinned lines in mathematics: errors, costs, the best line. -/
import Derived.Test.YtmfdflkpbejpoaaPrM
namespace Go.Proofs.Ytmfdflkpbejpoaa
open Go.RowKit
set_option linter.unusedVariables false

/-- the m points y of a profile of n points: ascending, the first and the last one among them -/
def ThOk (n : Nat) (z : Nat → Int) (m : Nat) (y : Nat → Int) : Prop :=
  PrOk n z ∧ 1 ≤ m ∧ y 0 = 0 ∧ y (m - 1) = (n : Int) - 1 ∧ ∀ i, i + 1 < m → y i < y (i + 1)
noncomputable def thB (n : Nat) (z : Nat → Int) (m : Nat) (y : Nat → Int) : Bool := @decide (ThOk n z m y) (Classical.propDecidable _)
theorem thB_yes {n : Nat} {z : Nat → Int} {m : Nat} {y : Nat → Int} (h : ThOk n z m y) : thB n z m y = true := by simp [thB, h]
theorem thB_no {n : Nat} {z : Nat → Int} {m : Nat} {y : Nat → Int} (h : ¬ ThOk n z m y) : thB n z m y = false := by simp [thB, h]
theorem ThOk.mono {n : Nat} {z : Nat → Int} {m : Nat} {y : Nat → Int} (h : ThOk n z m y) : ∀ j i, i < j → j < m → y i + ((j : Int) - i) ≤ y j := by
  intro j
  induction j with
  | zero => intro i hi; omega
  | succ j ih =>
    intro i hi hj
    have h1 := h.2.2.2.2 j hj
    by_cases e : i = j
    · subst e; omega
    · have := ih i (by omega) (by omega)
      omega
theorem ThOk.range {n : Nat} {z : Nat → Int} {m : Nat} {y : Nat → Int} (h : ThOk n z m y) (i : Nat) (hi : i < m) : (i : Int) ≤ y i ∧ y i ≤ (n : Int) - 1 - ((m : Int) - 1 - i) := by
  have h0 := h.2.2.1
  have h1 := h.2.2.2.1
  have hm := h.2.1
  constructor
  · by_cases e : i = 0
    · subst e; omega
    · have := h.mono i 0 (by omega) hi
      omega
  · by_cases e : i = m - 1
    · subst e; omega
    · have := h.mono (m - 1) i (by omega) (by omega)
      omega
theorem ThOk.len {n : Nat} {z : Nat → Int} {m : Nat} {y : Nat → Int} (h : ThOk n z m y) : m ≤ n := by
  have := h.range 0 h.2.1
  have := h.2.1
  omega
theorem ThOk.nat {n : Nat} {z : Nat → Int} {m : Nat} {y : Nat → Int} (h : ThOk n z m y) (i : Nat) (hi : i < m) : ∃ k : Nat, y i = k ∧ k < n ∧ i ≤ k := by
  have := h.range i hi
  exact ⟨(y i).toNat, by omega, by omega, by omega⟩

/-- the difference of a point from the line between two others, times their distance -/
def erD (z : Nat → Int) (i j k : Nat) : Int := z j * ((k : Int) - i) - z i * ((k : Int) - j) - z k * ((j : Int) - i)
/-- the error of the point j between i and k -/
def erJ (z : Nat → Int) (i j k : Nat) : Int := (max (erD z i j k) (0 - erD z i j k) + k - i - 1) / ((k : Int) - i)
/-- the greatest error of the first t points behind i -/
def erM (z : Nat → Int) (i k : Nat) : Nat → Int
  | 0 => 0
  | t + 1 => max (erM z i k t) (erJ z i (i + 1 + t) k)
def erB (z : Nat → Int) (i k : Nat) : Int := erM z i k (k - i - 1)
/-- the greatest error of the first t gaps -/
def erL (z : Nat → Int) (y : Nat → Int) : Nat → Int
  | 0 => 0
  | t + 1 => max (erL z y t) (erB z (y t).toNat (y (t + 1)).toNat)
noncomputable def thE (n : Nat) (z : Nat → Int) (m : Nat) (y : Nat → Int) : Int := if thB n z m y = true then erL z y (m - 1) else -1
theorem thE_yes {n : Nat} {z : Nat → Int} {m : Nat} {y : Nat → Int} (h : ThOk n z m y) : thE n z m y = erL z y (m - 1) := by rw [thE, if_pos (thB_yes h)]
theorem thE_no {n : Nat} {z : Nat → Int} {m : Nat} {y : Nat → Int} (h : ¬ ThOk n z m y) : thE n z m y = -1 := by rw [thE, if_neg (by rw [thB_no h]; simp)]
/-- an error -/
def ErOk (e : Int) : Prop := 0 ≤ e ∧ e ≤ 99
noncomputable def thK (n : Nat) (z : Nat → Int) (m : Nat) (y : Nat → Int) (e : Int) : Bool := @decide (ThOk n z m y ∧ ErOk e ∧ thE n z m y ≤ e) (Classical.propDecidable _)
theorem thK_yes {n : Nat} {z : Nat → Int} {m : Nat} {y : Nat → Int} {e : Int} (h : ThOk n z m y ∧ ErOk e ∧ thE n z m y ≤ e) : thK n z m y e = true := by simp [thK, h]
theorem thK_no {n : Nat} {z : Nat → Int} {m : Nat} {y : Nat → Int} {e : Int} (h : ¬ (ThOk n z m y ∧ ErOk e ∧ thE n z m y ≤ e)) : thK n z m y e = false := by simp [thK, h]

theorem prd_rng (x y : Int) (h1 : 0 ≤ x) (h2 : x ≤ 99) (h3 : 0 ≤ y) (h4 : y ≤ 20) : 0 ≤ x * y ∧ x * y ≤ 99 * y := by
  have a1 := Int.mul_nonneg h1 h3
  have a2 := Int.mul_nonneg (show 0 ≤ 99 - x by omega) h3
  simp only [Int.sub_mul] at a2
  omega
theorem erD_rng {z : Nat → Int} {n i j k : Nat} (hz : ∀ x, x < n → 0 ≤ z x ∧ z x ≤ 99) (hn : n ≤ 20) (h1 : i < j) (h2 : j < k) (h3 : k < n) :
    -(99 * ((k : Int) - i)) ≤ erD z i j k ∧ erD z i j k ≤ 99 * ((k : Int) - i) := by
  have a1 := prd_rng (z j) ((k : Int) - i) (hz j (by omega)).1 (hz j (by omega)).2 (by omega) (by omega)
  have a2 := prd_rng (z i) ((k : Int) - j) (hz i (by omega)).1 (hz i (by omega)).2 (by omega) (by omega)
  have a3 := prd_rng (z k) ((j : Int) - i) (hz k (by omega)).1 (hz k (by omega)).2 (by omega) (by omega)
  unfold erD
  omega
theorem up_div (a d : Int) (h : 0 < d) (e : Int) : (a + d - 1) / d ≤ e ↔ a ≤ e * d := by
  constructor
  · intro h1
    have h2 : (a + d - 1) / d < e + 1 := by omega
    rw [Int.ediv_lt_iff_lt_mul h, Int.add_mul] at h2
    omega
  · intro h1
    have h2 : (a + d - 1) / d < e + 1 := by
      rw [Int.ediv_lt_iff_lt_mul h, Int.add_mul]
      omega
    omega
theorem erJ_le {z : Nat → Int} {i j k : Nat} (h : i < k) (e : Int) : erJ z i j k ≤ e ↔ erD z i j k ≤ e * ((k : Int) - i) ∧ -(e * ((k : Int) - i)) ≤ erD z i j k := by
  have h1 := up_div (max (erD z i j k) (0 - erD z i j k)) ((k : Int) - i) (by omega) e
  have h2 : max (erD z i j k) (0 - erD z i j k) + ((k : Int) - i) - 1 = max (erD z i j k) (0 - erD z i j k) + k - i - 1 := by omega
  rw [h2] at h1
  show (max (erD z i j k) (0 - erD z i j k) + k - i - 1) / ((k : Int) - i) ≤ e ↔ _
  rw [h1]
  omega
theorem erJ_nonneg {z : Nat → Int} {i j k : Nat} (h : i < k) : 0 ≤ erJ z i j k := by
  unfold erJ
  exact Int.ediv_nonneg (by omega) (by omega)
theorem erM_nonneg (z : Nat → Int) (i k : Nat) : ∀ t, 0 ≤ erM z i k t := by
  intro t
  induction t with
  | zero => exact Int.le_refl _
  | succ t ih =>
    have : erM z i k (t + 1) = max (erM z i k t) (erJ z i (i + 1 + t) k) := rfl
    omega
theorem erM_le (z : Nat → Int) (i k : Nat) (e : Int) : ∀ t, erM z i k t ≤ e ↔ 0 ≤ e ∧ ∀ j, i < j → j < i + 1 + t → erJ z i j k ≤ e := by
  intro t
  induction t with
  | zero => exact ⟨fun h => ⟨h, fun j h1 h2 => by omega⟩, fun h => h.1⟩
  | succ t ih =>
    have h1 : erM z i k (t + 1) = max (erM z i k t) (erJ z i (i + 1 + t) k) := rfl
    rw [h1, Int.max_le, ih]
    constructor
    · rintro ⟨⟨a, b⟩, c⟩
      refine ⟨a, fun j hj1 hj2 => ?_⟩
      by_cases ej : j = i + 1 + t
      · subst ej; exact c
      · exact b j hj1 (by omega)
    · rintro ⟨a, b⟩
      exact ⟨⟨a, fun j hj1 hj2 => b j hj1 (by omega)⟩, b _ (by omega) (by omega)⟩
theorem erB_nonneg (z : Nat → Int) (i k : Nat) : 0 ≤ erB z i k := erM_nonneg _ _ _ _
theorem erB_le {z : Nat → Int} {i k : Nat} (h : i < k) (e : Int) : erB z i k ≤ e ↔ 0 ≤ e ∧ ∀ j, i < j → j < k → erJ z i j k ≤ e := by
  unfold erB
  rw [erM_le]
  constructor
  · rintro ⟨a, b⟩; exact ⟨a, fun j h1 h2 => b j h1 (by omega)⟩
  · rintro ⟨a, b⟩; exact ⟨a, fun j h1 h2 => b j h1 (by omega)⟩
theorem erJ_top {z : Nat → Int} {n i j k : Nat} (hz : ∀ x, x < n → 0 ≤ z x ∧ z x ≤ 99) (hn : n ≤ 20) (h1 : i < j) (h2 : j < k) (h3 : k < n) : erJ z i j k ≤ 99 := by
  have := erD_rng hz hn h1 h2 h3
  rw [erJ_le (by omega)]
  omega
theorem erB_top {z : Nat → Int} {n i k : Nat} (hz : ∀ x, x < n → 0 ≤ z x ∧ z x ≤ 99) (hn : n ≤ 20) (h1 : i < k) (h3 : k < n) : erB z i k ≤ 99 := by
  rw [erB_le h1]
  exact ⟨by omega, fun j a b => erJ_top hz hn a b h3⟩
theorem erM_top {z : Nat → Int} {n i k : Nat} (hz : ∀ x, x < n → 0 ≤ z x ∧ z x ≤ 99) (hn : n ≤ 20) (h1 : i < k) (h3 : k < n) (t : Nat) (ht : i + 1 + t ≤ k) : erM z i k t ≤ 99 := by
  rw [erM_le]
  exact ⟨by omega, fun j a b => erJ_top hz hn a (by omega) h3⟩
theorem erB_next (z : Nat → Int) (i : Nat) : erB z i (i + 1) = 0 := by
  unfold erB
  rw [show i + 1 - i - 1 = 0 by omega]
  rfl
theorem erL_nonneg (z : Nat → Int) (y : Nat → Int) : ∀ t, 0 ≤ erL z y t := by
  intro t
  induction t with
  | zero => exact Int.le_refl _
  | succ t ih =>
    have : erL z y (t + 1) = max (erL z y t) (erB z (y t).toNat (y (t + 1)).toNat) := rfl
    omega
theorem erL_le (z : Nat → Int) (y : Nat → Int) (e : Int) : ∀ t, erL z y t ≤ e ↔ 0 ≤ e ∧ ∀ i, i < t → erB z (y i).toNat (y (i + 1)).toNat ≤ e := by
  intro t
  induction t with
  | zero => exact ⟨fun h => ⟨h, fun i hi => by omega⟩, fun h => h.1⟩
  | succ t ih =>
    have h1 : erL z y (t + 1) = max (erL z y t) (erB z (y t).toNat (y (t + 1)).toNat) := rfl
    rw [h1, Int.max_le, ih]
    constructor
    · rintro ⟨⟨a, b⟩, c⟩
      refine ⟨a, fun i hi => ?_⟩
      by_cases ej : i = t
      · subst ej; exact c
      · exact b i (by omega)
    · rintro ⟨a, b⟩
      exact ⟨⟨a, fun i hi => b i (by omega)⟩, b _ (by omega)⟩
theorem ThOk.gap {n : Nat} {z : Nat → Int} {m : Nat} {y : Nat → Int} (h : ThOk n z m y) (i : Nat) (hi : i + 1 < m) : (y i).toNat < (y (i + 1)).toNat ∧ (y (i + 1)).toNat < n := by
  have h1 := h.range i (by omega)
  have h2 := h.range (i + 1) hi
  have h3 := h.2.2.2.2 i hi
  omega
theorem erL_top {n : Nat} {z : Nat → Int} {m : Nat} {y : Nat → Int} (h : ThOk n z m y) (t : Nat) (ht : t + 1 ≤ m) : erL z y t ≤ 99 := by
  rw [erL_le]
  refine ⟨by omega, fun i hi => ?_⟩
  have := h.gap i (by omega)
  exact erB_top h.1.2 h.1.1.2 this.1 this.2

/-- a step of a line -/
def Stp (n : Nat) (z : Nat → Int) (e : Int) (i k : Nat) : Prop := i < k ∧ k < n ∧ erB z i k ≤ e
noncomputable def spB (n : Nat) (z : Nat → Int) (e : Int) (i k : Nat) : Bool := @decide (Stp n z e i k) (Classical.propDecidable _)
theorem spB_yes {n : Nat} {z : Nat → Int} {e : Int} {i k : Nat} (h : Stp n z e i k) : spB n z e i k = true := by simp [spB, h]
theorem spB_no {n : Nat} {z : Nat → Int} {e : Int} {i k : Nat} (h : ¬ Stp n z e i k) : spB n z e i k = false := by simp [spB, h]
/-- the cost of the point i out of those of the first t points behind it -/
noncomputable def cmB (n : Nat) (z : Nat → Int) (e : Int) (f : Nat → Nat) (i : Nat) : Nat → Nat
  | 0 => if i + 1 = n then 1 else n
  | t + 1 => if spB n z e i (i + 1 + t) = true then min (cmB n z e f i t) (1 + f (i + 1 + t)) else cmB n z e f i t
/-- the costs of the last d points -/
noncomputable def coT (n : Nat) (z : Nat → Int) (e : Int) : Nat → Nat → Nat
  | 0 => fun _ => 0
  | d + 1 => fun i => if i + (d + 1) = n then cmB n z e (coT n z e d) i (n - i - 1) else coT n z e d i
noncomputable def coV (n : Nat) (z : Nat → Int) (e : Int) (i : Nat) : Nat := coT n z e (n - i) i
theorem coT_of (n : Nat) (z : Nat → Int) (e : Int) : ∀ d i, n ≤ i + d → i < n → coT n z e d i = coV n z e i := by
  intro d
  induction d with
  | zero => intro i h1 h2; omega
  | succ d ih =>
    intro i h1 h2
    by_cases h : i + (d + 1) = n
    · unfold coV
      rw [show n - i = d + 1 by omega]
    · show (if i + (d + 1) = n then _ else _) = _
      rw [if_neg h]
      exact ih i (by omega) h2
theorem cmB_congr (n : Nat) (z : Nat → Int) (e : Int) (f g : Nat → Nat) (i : Nat) : ∀ t, (∀ k, i < k → k < i + 1 + t → f k = g k) → cmB n z e f i t = cmB n z e g i t := by
  intro t
  induction t with
  | zero => intro _; rfl
  | succ t ih =>
    intro h
    show (if _ then min _ _ else _) = (if _ then min _ _ else _)
    rw [ih (fun k a b => h k a (by omega)), h (i + 1 + t) (by omega) (by omega)]
theorem coV_eq (n : Nat) (z : Nat → Int) (e : Int) (i : Nat) (hi : i < n) : coV n z e i = cmB n z e (coV n z e) i (n - i - 1) := by
  obtain ⟨d, hd⟩ : ∃ d, n - i = d + 1 := ⟨n - i - 1, by omega⟩
  have h0 : coV n z e i = cmB n z e (coT n z e d) i (n - i - 1) := by
    have h1 : coV n z e i = coT n z e (d + 1) i := by rw [← hd]; rfl
    rw [h1]
    show (if i + (d + 1) = n then _ else _) = _
    rw [if_pos (by omega)]
  rw [h0]
  exact cmB_congr n z e _ _ i (n - i - 1) (fun k a b => coT_of n z e d k (by omega) (by omega))
theorem cmB_pos (n : Nat) (z : Nat → Int) (e : Int) (f : Nat → Nat) (i : Nat) (hn : 1 ≤ n) : ∀ t, 1 ≤ cmB n z e f i t ∧ cmB n z e f i t ≤ n := by
  intro t
  induction t with
  | zero => show 1 ≤ (if _ then _ else _) ∧ (if _ then _ else _) ≤ n; split <;> omega
  | succ t ih =>
    by_cases h : spB n z e i (i + 1 + t) = true
    · have h1 : cmB n z e f i (t + 1) = min (cmB n z e f i t) (1 + f (i + 1 + t)) := by
        show (if spB n z e i (i + 1 + t) = true then _ else _) = _
        rw [if_pos h]
      omega
    · have h1 : cmB n z e f i (t + 1) = cmB n z e f i t := by
        show (if spB n z e i (i + 1 + t) = true then _ else _) = _
        rw [if_neg h]
      omega
theorem cmB_le (n : Nat) (z : Nat → Int) (e : Int) (f : Nat → Nat) (i : Nat) : ∀ t k, Stp n z e i k → k < i + 1 + t → cmB n z e f i t ≤ 1 + f k := by
  intro t
  induction t with
  | zero => intro k h1 h2; have := h1.1; omega
  | succ t ih =>
    intro k h1 h2
    show (if spB n z e i (i + 1 + t) = true then min _ _ else _) ≤ _
    by_cases ek : k = i + 1 + t
    · subst ek
      rw [if_pos (spB_yes h1)]
      omega
    · have := ih k h1 (by omega)
      split <;> omega
theorem cmB_is (n : Nat) (z : Nat → Int) (e : Int) (f : Nat → Nat) (i : Nat) : ∀ t, cmB n z e f i t = (if i + 1 = n then 1 else n) ∨ ∃ k, Stp n z e i k ∧ k < i + 1 + t ∧ cmB n z e f i t = 1 + f k := by
  intro t
  induction t with
  | zero => exact Or.inl rfl
  | succ t ih =>
    by_cases h : Stp n z e i (i + 1 + t)
    · have h1 : cmB n z e f i (t + 1) = min (cmB n z e f i t) (1 + f (i + 1 + t)) := by
        show (if spB n z e i (i + 1 + t) = true then _ else _) = _
        rw [if_pos (spB_yes h)]
      by_cases h2 : cmB n z e f i t ≤ 1 + f (i + 1 + t)
      · rw [h1, Nat.min_eq_left h2]
        rcases ih with ih | ⟨k, a, b, c⟩
        · exact Or.inl ih
        · exact Or.inr ⟨k, a, by omega, c⟩
      · rw [h1, Nat.min_eq_right (by omega)]
        exact Or.inr ⟨_, h, by omega, rfl⟩
    · have h1 : cmB n z e f i (t + 1) = cmB n z e f i t := by
        show (if spB n z e i (i + 1 + t) = true then _ else _) = _
        rw [if_neg (by rw [spB_no h]; simp)]
      rw [h1]
      rcases ih with ih | ⟨k, a, b, c⟩
      · exact Or.inl ih
      · exact Or.inr ⟨k, a, by omega, c⟩
theorem stp_next {n : Nat} {z : Nat → Int} {e : Int} (he : 0 ≤ e) {i : Nat} (hi : i + 1 < n) : Stp n z e i (i + 1) := ⟨by omega, hi, by rw [erB_next]; exact he⟩
theorem coV_last (n : Nat) (z : Nat → Int) (e : Int) (hn : 1 ≤ n) : coV n z e (n - 1) = 1 := by
  rw [coV_eq n z e (n - 1) (by omega), show n - (n - 1) - 1 = 0 by omega]
  show (if _ then _ else _) = _
  rw [if_pos (by omega)]
theorem coV_pos (n : Nat) (z : Nat → Int) (e : Int) (i : Nat) (hi : i < n) : 1 ≤ coV n z e i ∧ coV n z e i ≤ n := by
  rw [coV_eq n z e i hi]
  exact cmB_pos n z e _ i (by omega) _
theorem coV_le {n : Nat} {z : Nat → Int} {e : Int} {i k : Nat} (h : Stp n z e i k) : coV n z e i ≤ 1 + coV n z e k := by
  rw [coV_eq n z e i (by have := h.1; have := h.2.1; omega)]
  exact cmB_le n z e _ i (n - i - 1) k h (by have := h.1; have := h.2.1; omega)
theorem coV_sub {n : Nat} {z : Nat → Int} {e : Int} (he : 0 ≤ e) : ∀ d i, i + d + 1 = n → coV n z e i ≤ d + 1 := by
  intro d
  induction d with
  | zero =>
    intro i h
    obtain rfl : i = n - 1 := by omega
    rw [coV_last n z e (by omega)]
    exact Nat.le_refl _
  | succ d ih =>
    intro i h
    have h1 := ih (i + 1) (by omega)
    have h2 := coV_le (stp_next (z := z) he (i := i) (n := n) (by omega))
    omega
theorem coV_is {n : Nat} {z : Nat → Int} {e : Int} (he : 0 ≤ e) {i : Nat} (hi : i + 1 < n) : ∃ k, Stp n z e i k ∧ coV n z e i = 1 + coV n z e k := by
  rcases cmB_is n z e (coV n z e) i (n - i - 1) with h | ⟨k, a, b, c⟩
  · rw [if_neg (by omega), ← coV_eq n z e i (by omega)] at h
    have h1 := coV_sub (n := n) (e := e) (z := z) he (n - i - 1) i (by omega)
    have h2 := coV_le (stp_next (z := z) he hi)
    have h3 := coV_sub (n := n) (e := e) (z := z) he (n - (i + 1) - 1) (i + 1) (by omega)
    exact ⟨i + 1, stp_next he hi, by omega⟩
  · exact ⟨k, a, by rw [coV_eq n z e i (by omega)]; exact c⟩

/-- the last of the first t points behind i that leads on as short as can be -/
noncomputable def nxG (n : Nat) (z : Nat → Int) (e : Int) (i : Nat) : Nat → Nat
  | 0 => i
  | t + 1 => if spB n z e i (i + 1 + t) = true ∧ coV n z e (i + 1 + t) + 1 = coV n z e i then i + 1 + t else nxG n z e i t
noncomputable def nxV (n : Nat) (z : Nat → Int) (e : Int) (i : Nat) : Nat := nxG n z e i (n - i - 1)
theorem nxG_yes {n : Nat} {z : Nat → Int} {e : Int} {i t : Nat} (h : Stp n z e i (i + 1 + t)) (hc : coV n z e (i + 1 + t) + 1 = coV n z e i) : nxG n z e i (t + 1) = i + 1 + t := by
  show (if _ then _ else _) = _
  rw [if_pos ⟨spB_yes h, hc⟩]
theorem nxG_no {n : Nat} {z : Nat → Int} {e : Int} {i t : Nat} (h : ¬ (Stp n z e i (i + 1 + t) ∧ coV n z e (i + 1 + t) + 1 = coV n z e i)) : nxG n z e i (t + 1) = nxG n z e i t := by
  show (if _ then _ else _) = _
  rw [if_neg]
  rintro ⟨a, b⟩
  refine h ⟨?_, b⟩
  by_cases g : Stp n z e i (i + 1 + t)
  · exact g
  · rw [spB_no g] at a; cases a
/-- what is next: it leads on as short as can be, and no point behind it does -/
def NxIs (n : Nat) (z : Nat → Int) (e : Int) (i k : Nat) : Prop := Stp n z e i k ∧ coV n z e k + 1 = coV n z e i ∧ ∀ k', k < k' → Stp n z e i k' → coV n z e k' + 1 ≠ coV n z e i
theorem nxG_is {n : Nat} {z : Nat → Int} {e : Int} {i : Nat} : ∀ t, (nxG n z e i t = i ∧ ∀ k, k < i + 1 + t → ¬ (Stp n z e i k ∧ coV n z e k + 1 = coV n z e i)) ∨
    (Stp n z e i (nxG n z e i t) ∧ coV n z e (nxG n z e i t) + 1 = coV n z e i ∧ ∀ k', nxG n z e i t < k' → k' < i + 1 + t → ¬ (Stp n z e i k' ∧ coV n z e k' + 1 = coV n z e i)) := by
  intro t
  induction t with
  | zero => exact Or.inl ⟨rfl, fun k hk h => by have := h.1.1; omega⟩
  | succ t ih =>
    by_cases h : Stp n z e i (i + 1 + t) ∧ coV n z e (i + 1 + t) + 1 = coV n z e i
    · rw [nxG_yes h.1 h.2]
      exact Or.inr ⟨h.1, h.2, fun k' a b => by omega⟩
    · rw [nxG_no h]
      rcases ih with ⟨a, b⟩ | ⟨a, b, c⟩
      · refine Or.inl ⟨a, fun k hk => ?_⟩
        by_cases ek : k = i + 1 + t
        · subst ek; exact h
        · exact b k (by omega)
      · refine Or.inr ⟨a, b, fun k' h1 h2 => ?_⟩
        by_cases ek : k' = i + 1 + t
        · subst ek; exact h
        · exact c k' h1 (by omega)
theorem nxV_is {n : Nat} {z : Nat → Int} {e : Int} (he : 0 ≤ e) {i : Nat} (hi : i + 1 < n) : NxIs n z e i (nxV n z e i) := by
  rcases nxG_is (n := n) (z := z) (e := e) (i := i) (n - i - 1) with ⟨a, b⟩ | ⟨a, b, c⟩
  · obtain ⟨k, h1, h2⟩ := coV_is (z := z) he hi
    exact absurd ⟨h1, by omega⟩ (b k (by have := h1.2.1; omega))
  · exact ⟨a, b, fun k' h1 h2 h3 => c k' h1 (by have := h2.2.1; omega) ⟨h2, h3⟩⟩
theorem NxIs.uniq {n : Nat} {z : Nat → Int} {e : Int} {i a b : Nat} (ha : NxIs n z e i a) (hb : NxIs n z e i b) : a = b := by
  by_cases h : a < b
  · exact absurd hb.2.1 (ha.2.2 b h hb.1)
  · by_cases h' : b < a
    · exact absurd ha.2.1 (hb.2.2 a h' ha.1)
    · omega

/-- the shortest of the first t lines behind i, the last of several; i itself: none -/
noncomputable def shG (n : Nat) (z : Nat → Int) (e : Int) (i : Nat) : Nat → Nat
  | 0 => i
  | t + 1 => if spB n z e i (i + 1 + t) = true ∧ (shG n z e i t = i ∨ coV n z e (i + 1 + t) ≤ coV n z e (shG n z e i t)) then i + 1 + t else shG n z e i t
theorem shG_yes {n : Nat} {z : Nat → Int} {e : Int} {i t : Nat} (h : Stp n z e i (i + 1 + t)) (hc : shG n z e i t = i ∨ coV n z e (i + 1 + t) ≤ coV n z e (shG n z e i t)) : shG n z e i (t + 1) = i + 1 + t := by
  show (if _ then _ else _) = _
  rw [if_pos ⟨spB_yes h, hc⟩]
theorem shG_no {n : Nat} {z : Nat → Int} {e : Int} {i t : Nat} (h : ¬ (Stp n z e i (i + 1 + t) ∧ (shG n z e i t = i ∨ coV n z e (i + 1 + t) ≤ coV n z e (shG n z e i t)))) : shG n z e i (t + 1) = shG n z e i t := by
  show (if _ then _ else _) = _
  rw [if_neg]
  rintro ⟨a, b⟩
  refine h ⟨?_, b⟩
  by_cases g : Stp n z e i (i + 1 + t)
  · exact g
  · rw [spB_no g] at a; cases a
theorem shG_is {n : Nat} {z : Nat → Int} {e : Int} {i : Nat} : ∀ t, (shG n z e i t = i ∧ ∀ k, k < i + 1 + t → ¬ Stp n z e i k) ∨
    (Stp n z e i (shG n z e i t) ∧ shG n z e i t < i + 1 + t ∧ (∀ k, k < i + 1 + t → Stp n z e i k → coV n z e (shG n z e i t) ≤ coV n z e k) ∧ ∀ k, shG n z e i t < k → k < i + 1 + t → Stp n z e i k → coV n z e (shG n z e i t) < coV n z e k) := by
  intro t
  induction t with
  | zero => exact Or.inl ⟨rfl, fun k hk h => by have := h.1; omega⟩
  | succ t ih =>
    by_cases hs : Stp n z e i (i + 1 + t)
    · by_cases hc : shG n z e i t = i ∨ coV n z e (i + 1 + t) ≤ coV n z e (shG n z e i t)
      · rw [shG_yes hs hc]
        refine Or.inr ⟨hs, by omega, fun k hk h => ?_, fun k a b => by omega⟩
        by_cases ek : k = i + 1 + t
        · subst ek; exact Nat.le_refl _
        · rcases ih with ⟨a, b⟩ | ⟨a, b, c, d⟩
          · exact absurd h (b k (by omega))
          · have h1 := c k (by omega) h
            rcases hc with hc | hc
            · rw [hc] at a; have := a.1; omega
            · omega
      · rw [shG_no (fun g => hc g.2)]
        rcases ih with ⟨a, b⟩ | ⟨a, b, c, d⟩
        · exact absurd (Or.inl a) hc
        · refine Or.inr ⟨a, by omega, fun k hk h => ?_, fun k h1 h2 h3 => ?_⟩
          · by_cases ek : k = i + 1 + t
            · subst ek; omega
            · exact c k (by omega) h
          · by_cases ek : k = i + 1 + t
            · subst ek; omega
            · exact d k h1 (by omega) h3
    · rw [shG_no (fun g => hs g.1)]
      rcases ih with ⟨a, b⟩ | ⟨a, b, c, d⟩
      · refine Or.inl ⟨a, fun k hk h => ?_⟩
        by_cases ek : k = i + 1 + t
        · subst ek; exact hs h
        · exact b k (by omega) h
      · refine Or.inr ⟨a, by omega, fun k hk h => ?_, fun k h1 h2 h3 => ?_⟩
        · by_cases ek : k = i + 1 + t
          · subst ek; exact absurd h hs
          · exact c k (by omega) h
        · by_cases ek : k = i + 1 + t
          · subst ek; exact absurd h3 hs
          · exact d k h1 (by omega) h3
theorem shG_nx {n : Nat} {z : Nat → Int} {e : Int} (he : 0 ≤ e) {i : Nat} (hi : i + 1 < n) : shG n z e i (n - i - 1) = nxV n z e i := by
  obtain ⟨k, h1, h2⟩ := coV_is (z := z) he hi
  rcases shG_is (n := n) (z := z) (e := e) (i := i) (n - i - 1) with ⟨a, b⟩ | ⟨a, b, c, d⟩
  · exact absurd h1 (b k (by have := h1.2.1; omega))
  · refine NxIs.uniq ⟨a, ?_, fun k' h3 h4 h5 => ?_⟩ (nxV_is he hi)
    · have h3 := c k (by have := h1.2.1; omega) h1
      have h4 := coV_le a
      omega
    · have h6 := d k' h3 (by have := h4.2.1; omega) h4
      have h7 := coV_le a
      omega

/-- a line from the point i on, by a rule that says what follows -/
def lnF (n : Nat) (f : Nat → Nat) : Nat → Nat → List Int
  | 0, i => [(i : Int)]
  | d + 1, i => if i + 1 < n then (i : Int) :: lnF n f d (f i) else [(i : Int)]
def lnL (n : Nat) (f : Nat → Nat) (i : Nat) : List Int := lnF n f n i
/-- a rule that leads on -/
def Rul (n : Nat) (f : Nat → Nat) : Prop := ∀ i, i + 1 < n → i < f i ∧ f i < n
theorem lnF_any {n : Nat} {f : Nat → Nat} (hf : Rul n f) : ∀ d d' i, n ≤ i + d + 1 → n ≤ i + d' + 1 → lnF n f d i = lnF n f d' i := by
  intro d
  induction d with
  | zero =>
    intro d' i h1 h2
    cases d' with
    | zero => rfl
    | succ d' =>
      show _ = (if i + 1 < n then _ else _)
      rw [if_neg (by omega)]; rfl
  | succ d ih =>
    intro d' i h1 h2
    cases d' with
    | zero =>
      show (if i + 1 < n then _ else _) = _
      rw [if_neg (by omega)]; rfl
    | succ d' =>
      show (if i + 1 < n then _ else _) = (if i + 1 < n then _ else _)
      by_cases h : i + 1 < n
      · rw [if_pos h, if_pos h, ih d' (f i) (by have := (hf i h).1; omega) (by have := (hf i h).1; omega)]
      · rw [if_neg h, if_neg h]
theorem lnL_step {n : Nat} {f : Nat → Nat} (hf : Rul n f) {i : Nat} (h : i + 1 < n) : lnL n f i = (i : Int) :: lnL n f (f i) := by
  unfold lnL
  obtain ⟨d, rfl⟩ : ∃ d, n = d + 1 := ⟨n - 1, by omega⟩
  show (if i + 1 < d + 1 then _ else _) = _
  rw [if_pos h, lnF_any hf d (d + 1) (f i) (by have := (hf i h).1; omega) (by have := (hf i h).1; omega)]
theorem lnL_last {n : Nat} {f : Nat → Nat} {i : Nat} (h : ¬ i + 1 < n) : lnL n f i = [(i : Int)] := by
  unfold lnL
  cases n with
  | zero => rfl
  | succ d =>
    show (if i + 1 < d + 1 then _ else _) = _
    rw [if_neg h]
/-- the best line -/
noncomputable def beL (n : Nat) (z : Nat → Int) (e : Int) (i : Nat) : List Int := lnL n (nxV n z e) i
theorem nxV_rul {n : Nat} {z : Nat → Int} {e : Int} (he : 0 ≤ e) : Rul n (nxV n z e) := fun i hi => ⟨(nxV_is he hi).1.1, (nxV_is he hi).1.2.1⟩
theorem beL_len {n : Nat} {z : Nat → Int} {e : Int} (he : 0 ≤ e) : ∀ d i, i + d + 1 = n → (beL n z e i).length = coV n z e i := by
  intro d
  induction d using Nat.strongRecOn with
  | ind d ih =>
    intro i h
    by_cases hi : i + 1 < n
    · have h1 := nxV_is (z := z) he hi
      unfold beL
      rw [lnL_step (nxV_rul he) hi, List.length_cons]
      have h2 := ih (n - nxV n z e i - 1) (by have := h1.1.1; have := h1.1.2.1; omega) (nxV n z e i) (by have := h1.1.2.1; omega)
      unfold beL at h2
      rw [h2]
      exact h1.2.1
    · obtain rfl : i = n - 1 := by omega
      unfold beL
      rw [lnL_last hi, coV_last n z e (by omega)]; rfl

/-- the farthest point within reach -/
noncomputable def grG (n : Nat) (z : Nat → Int) (e : Int) (i : Nat) : Nat → Nat
  | 0 => i
  | t + 1 => if spB n z e i (i + 1 + t) = true then i + 1 + t else grG n z e i t
noncomputable def grV (n : Nat) (z : Nat → Int) (e : Int) (i : Nat) : Nat := grG n z e i (n - i - 1)
theorem grG_yes {n : Nat} {z : Nat → Int} {e : Int} {i t : Nat} (h : Stp n z e i (i + 1 + t)) : grG n z e i (t + 1) = i + 1 + t := by
  show (if _ then _ else _) = _
  rw [if_pos (spB_yes h)]
theorem grG_no {n : Nat} {z : Nat → Int} {e : Int} {i t : Nat} (h : ¬ Stp n z e i (i + 1 + t)) : grG n z e i (t + 1) = grG n z e i t := by
  show (if _ then _ else _) = _
  rw [if_neg (by rw [spB_no h]; simp)]
theorem grG_is {n : Nat} {z : Nat → Int} {e : Int} {i : Nat} : ∀ t, (grG n z e i t = i ∧ ∀ k, k < i + 1 + t → ¬ Stp n z e i k) ∨
    (Stp n z e i (grG n z e i t) ∧ ∀ k, grG n z e i t < k → k < i + 1 + t → ¬ Stp n z e i k) := by
  intro t
  induction t with
  | zero => exact Or.inl ⟨rfl, fun k hk h => by have := h.1; omega⟩
  | succ t ih =>
    by_cases h : Stp n z e i (i + 1 + t)
    · rw [grG_yes h]
      exact Or.inr ⟨h, fun k a b => by omega⟩
    · rw [grG_no h]
      rcases ih with ⟨a, b⟩ | ⟨a, b⟩
      · refine Or.inl ⟨a, fun k hk => ?_⟩
        by_cases ek : k = i + 1 + t
        · subst ek; exact h
        · exact b k (by omega)
      · refine Or.inr ⟨a, fun k h1 h2 => ?_⟩
        by_cases ek : k = i + 1 + t
        · subst ek; exact h
        · exact b k h1 (by omega)
def GrIs (n : Nat) (z : Nat → Int) (e : Int) (i k : Nat) : Prop := Stp n z e i k ∧ ∀ k', k < k' → ¬ Stp n z e i k'
theorem grV_is {n : Nat} {z : Nat → Int} {e : Int} (he : 0 ≤ e) {i : Nat} (hi : i + 1 < n) : GrIs n z e i (grV n z e i) := by
  rcases grG_is (n := n) (z := z) (e := e) (i := i) (n - i - 1) with ⟨a, b⟩ | ⟨a, b⟩
  · exact absurd (stp_next he hi) (b (i + 1) (by omega))
  · exact ⟨a, fun k h1 h2 => b k h1 (by have := h2.2.1; omega) h2⟩
theorem GrIs.uniq {n : Nat} {z : Nat → Int} {e : Int} {i a b : Nat} (ha : GrIs n z e i a) (hb : GrIs n z e i b) : a = b := by
  by_cases h : a < b
  · exact absurd hb.1 (ha.2 b h)
  · by_cases h' : b < a
    · exact absurd ha.1 (hb.2 a h')
    · omega
theorem grV_rul {n : Nat} {z : Nat → Int} {e : Int} (he : 0 ≤ e) : Rul n (grV n z e) := fun i hi => ⟨(grV_is he hi).1.1, (grV_is he hi).1.2.1⟩
noncomputable def gyL (n : Nat) (z : Nat → Int) (e : Int) : List Int := lnL n (grV n z e) 0

theorem lnF_rng {n : Nat} {f : Nat → Nat} (hf : Rul n f) : ∀ d i, i < n → ∀ x ∈ lnF n f d i, (i : Int) ≤ x ∧ x < n := by
  intro d
  induction d with
  | zero => intro i hi x hx; simp [lnF] at hx; omega
  | succ d ih =>
    intro i hi x hx
    by_cases h : i + 1 < n
    · rw [lnF, if_pos h] at hx
      rcases List.mem_cons.1 hx with rfl | hx
      · omega
      · have := ih (f i) (hf i h).2 x hx
        have := (hf i h).1
        omega
    · rw [lnF, if_neg h] at hx
      simp at hx
      omega
theorem lnL_ok {n : Nat} {f : Nat → Nat} (hf : Rul n f) (i : Nat) (hi : i < n) (hn : n ≤ 20) : NsOk (lnL n f i) := fun x hx => by
  have := lnF_rng hf n i hi x hx
  omega
theorem lnF_len {n : Nat} {f : Nat → Nat} : ∀ d i, (lnF n f d i).length ≤ d + 1 := by
  intro d
  induction d with
  | zero => intro i; exact Nat.le_refl _
  | succ d ih =>
    intro i
    rw [lnF]
    split
    · simp; exact ih _
    · simp

/-- half of the points -/
def haF (n : Nat) (i : Nat) : Nat := min (i + 2) (n - 1)
theorem haF_rul (n : Nat) : Rul n (haF n) := fun i hi => by unfold haF; omega
def haL (n : Nat) : List Int := lnL n (haF n) 0

/-- the least error with at most m points -/
def LeIs (n : Nat) (z : Nat → Int) (m : Int) (e : Nat) : Prop := (coV n z e 0 : Int) ≤ m ∧ ∀ e' : Nat, e' < e → m < coV n z e' 0
theorem LeIs.uniq {n : Nat} {z : Nat → Int} {m : Int} {a b : Nat} (ha : LeIs n z m a) (hb : LeIs n z m b) : a = b := by
  by_cases h : a < b
  · have := hb.2 a h; have := ha.1; omega
  · by_cases h' : b < a
    · have := ha.2 b h'; have := hb.1; omega
    · omega
theorem stp_mono {n : Nat} {z : Nat → Int} {e e' : Int} {i k : Nat} (h : Stp n z e i k) (he : e ≤ e') : Stp n z e' i k := ⟨h.1, h.2.1, Int.le_trans h.2.2 he⟩
theorem coV_mono {n : Nat} {z : Nat → Int} {e e' : Int} (h0 : 0 ≤ e) (he : e ≤ e') : ∀ d i, i + d + 1 = n → coV n z e' i ≤ coV n z e i := by
  intro d
  induction d using Nat.strongRecOn with
  | ind d ih =>
    intro i h
    by_cases hi : i + 1 < n
    · obtain ⟨k, h1, h2⟩ := coV_is (z := z) h0 hi
      have h3 := ih (n - k - 1) (by have := h1.1; have := h1.2.1; omega) k (by have := h1.2.1; omega)
      have h4 := coV_le (stp_mono h1 he)
      omega
    · obtain rfl : i = n - 1 := by omega
      rw [coV_last n z e (by omega), coV_last n z e' (by omega)]
      exact Nat.le_refl _
theorem coV_top {n : Nat} {z : Nat → Int} (h : PrOk n z) : coV n z 99 0 ≤ 2 ∧ (n = 1 → coV n z 99 0 = 1) := by
  obtain ⟨⟨h1, h2⟩, hz⟩ := h
  by_cases e : n = 1
  · subst e
    have := coV_last 1 z 99 (by omega)
    exact ⟨by rw [show (1 : Nat) - 1 = 0 from rfl] at this; omega, fun _ => this⟩
  · have h3 := coV_le (n := n) (z := z) (e := 99) (i := 0) (k := n - 1) ⟨by omega, by omega, erB_top hz h2 (by omega) (by omega)⟩
    rw [coV_last n z 99 (by omega)] at h3
    exact ⟨h3, fun g => absurd g e⟩

end Go.Proofs.Ytmfdflkpbejpoaa
