/- The hull turned over, and with a point below it lowered. -/
import Derived.Test.YtgcebhmenffbjabPrHu
namespace Go.Proofs.Ytgcebhmenffbjab
set_option linter.unusedVariables false

def flL (s : Nat → Bool) : Nat → List Int
  | 0 => []
  | k + 1 => if s k = true then flL s k ++ [(k : Int)] else flL s k
theorem flL_yes {s : Nat → Bool} {k : Nat} (h : s k = true) : flL s (k + 1) = flL s k ++ [(k : Int)] := by show (if s k = true then _ else _) = _; rw [if_pos h]
theorem flL_no {s : Nat → Bool} {k : Nat} (h : s k = false) : flL s (k + 1) = flL s k := by show (if s k = true then _ else _) = _; rw [if_neg (by rw [h]; simp)]
theorem huL_fl (n : Nat) (z : Nat → Int) : ∀ k, huL n z k = flL (huB n z) k := by
  intro k
  induction k with
  | zero => rfl
  | succ k ih =>
    by_cases h : Hul n z k
    · rw [huL_yes h, flL_yes (huB_yes h), ih]
    · rw [huL_no h, flL_no (huB_no h), ih]
theorem flL_congr {s s' : Nat → Bool} : ∀ k, (∀ j, j < k → s j = s' j) → flL s k = flL s' k := by
  intro k
  induction k with
  | zero => intro _; rfl
  | succ k ih =>
    intro h
    have h1 := ih (fun j hj => h j (by omega))
    have h2 := h k (by omega)
    cases e : s k with
    | true => rw [flL_yes e, flL_yes (h2 ▸ e), h1]
    | false => rw [flL_no e, flL_no (h2 ▸ e), h1]
theorem flL_head (s : Nat → Bool) : ∀ k, flL s (k + 1) = (if s 0 = true then [(0 : Int)] else []) ++ (flL (fun j => s (j + 1)) k).map (fun x => x + 1) := by
  intro k
  induction k with
  | zero =>
    cases e : s 0 with
    | true => rw [flL_yes e]; simp [flL]
    | false => rw [flL_no e]; simp [flL]
  | succ k ih =>
    cases e : s (k + 1) with
    | true =>
      rw [flL_yes e, ih, flL_yes (s := fun j => s (j + 1)) e, List.map_append, List.append_assoc]
      simp
    | false => rw [flL_no e, ih, flL_no (s := fun j => s (j + 1)) e]
theorem flL_rev : ∀ n (s : Nat → Bool), flL (fun j => s (n - 1 - j)) n = ((flL s n).reverse).map (fun x => (n : Int) - 1 - x) := by
  intro n
  induction n with
  | zero => intro s; rfl
  | succ n ih =>
    intro s
    have h1 : flL (fun j => s (n + 1 - 1 - j)) n = flL (fun j => (fun i => s (i + 1)) (n - 1 - j)) n := flL_congr n (fun j hj => by
      show s (n + 1 - 1 - j) = s (n - 1 - j + 1)
      congr 1; omega)
    have h2 : (flL s (n + 1)).reverse.map (fun x => ((n + 1 : Nat) : Int) - 1 - x) = (flL (fun i => s (i + 1)) n).reverse.map (fun x => (n : Int) - 1 - x) ++ (if s 0 = true then [(n : Int)] else []) := by
      rw [flL_head, List.reverse_append, List.map_append, ← List.map_reverse, List.map_map]
      congr 1
      · refine List.map_congr_left (fun x _ => ?_)
        show ((n + 1 : Nat) : Int) - 1 - (x + 1) = (n : Int) - 1 - x
        omega
      · by_cases e : s 0 = true
        · rw [if_pos e, if_pos e]; simp
        · rw [if_neg e, if_neg e]; simp
    rw [h2, ← ih (fun i => s (i + 1)), ← h1]
    have e0 : (fun j => s (n + 1 - 1 - j)) n = s 0 := by show s (n + 1 - 1 - n) = s 0; congr 1; omega
    cases e : s 0 with
    | true => rw [flL_yes (s := fun j => s (n + 1 - 1 - j)) (e0.trans e), if_pos rfl]
    | false => rw [flL_no (s := fun j => s (n + 1 - 1 - j)) (e0.trans e)]; simp
theorem hul_rev {n : Nat} {z : Nat → Int} {j : Nat} (hj : j < n) : Hul n (revZ (n - 1) z) (n - 1 - j) ↔ Hul n z j := by
  constructor
  · intro h a b h1 h2 h3 hu
    have g := h (n - 1 - b) (n - 1 - a) (by omega) (by omega) (by omega)
    have e1 : revZ (n - 1) z (n - 1 - b) = z b := by unfold revZ; congr 1; omega
    have e2 : revZ (n - 1) z (n - 1 - a) = z a := by unfold revZ; congr 1; omega
    rw [e1, e2] at g
    exact g ((und_rev z (n - 1) a b j (z a) (z b) (by omega) (by omega) (by omega)).2 hu)
  · intro h a b h1 h2 h3 hu
    have g := h (n - 1 - b) (n - 1 - a) (by omega) (by omega) (by omega)
    refine g ?_
    have e1 : revZ (n - 1) z a = z (n - 1 - a) := rfl
    have e2 : revZ (n - 1) z b = z (n - 1 - b) := rfl
    rw [e1, e2] at hu
    have k := (und_rev z (n - 1) (n - 1 - b) (n - 1 - a) j (z (n - 1 - b)) (z (n - 1 - a)) (by omega) (by omega) (by omega)).1
    rw [show n - 1 - (n - 1 - a) = a by omega, show n - 1 - (n - 1 - b) = b by omega] at k
    exact k hu
theorem huL_rev (n : Nat) (z : Nat → Int) : huL n (revZ (n - 1) z) n = ((huL n z n).reverse).map (fun x => (n : Int) - 1 - x) := by
  rw [huL_fl, huL_fl, ← flL_rev]
  refine flL_congr n (fun j hj => ?_)
  have h := hul_rev (n := n) (z := z) (j := n - 1 - j) (by omega)
  rw [show n - 1 - (n - 1 - j) = j by omega] at h
  by_cases g : Hul n z (n - 1 - j)
  · rw [huB_yes g, huB_yes (h.2 g)]
  · rw [huB_no g, huB_no (fun x => g (h.1 x))]
theorem rev_len (L : List Int) (f : Int → Int) : (L.reverse.map f).length = L.length := by simp
theorem rev_at (L : List Int) (f : Int → Int) (m : Nat) (hm : m < L.length) : nsZ (L.reverse.map f) (L.length - 1 - m) = f (nsZ L m) := by
  unfold nsZ
  rw [List.getD_eq_getElem?_getD, List.getD_eq_getElem?_getD, List.getElem?_map, List.getElem?_reverse (by omega), show L.length - 1 - (L.length - 1 - m) = m by omega, List.getElem?_eq_getElem hm]
  rfl

theorem near_left {n : Nat} {z : Nat → Int} : ∀ i, 0 < i → ∃ p, p < i ∧ Hul n z p ∧ ∀ x, p < x → x < i → ¬ Hul n z x := by
  intro i
  induction i with
  | zero => intro h; omega
  | succ i ih =>
    intro _
    by_cases h : Hul n z i
    · exact ⟨i, by omega, h, fun x a b => by omega⟩
    · by_cases h0 : i = 0
      · subst h0; exact absurd (fun a b h => by omega) h
      · obtain ⟨p, a1, a2, a3⟩ := ih (by omega)
        exact ⟨p, by omega, a2, fun x b1 b2 => by
          by_cases e : x = i
          · rw [e]; exact h
          · exact a3 x b1 (by omega)⟩
theorem near_right {n : Nat} {z : Nat → Int} : ∀ d i, i + 1 + d < n → ¬ Hul n z i → (i + 1 + d = n - 1) → ∃ q, i < q ∧ q < n ∧ Hul n z q ∧ ∀ x, i < x → x < q → ¬ Hul n z x := by
  intro d
  induction d with
  | zero =>
    intro i h1 h2 h3
    exact ⟨i + 1, by omega, by omega, fun a b g1 g2 g3 => by omega, fun x a b => by omega⟩
  | succ d ih =>
    intro i h1 h2 h3
    by_cases h : Hul n z (i + 1)
    · exact ⟨i + 1, by omega, by omega, h, fun x a b => by omega⟩
    · obtain ⟨q, a1, a2, a3, a4⟩ := ih (i + 1) (by omega) h (by omega)
      exact ⟨q, by omega, a2, a3, fun x b1 b2 => by
        by_cases e : x = i + 1
        · rw [e]; exact h
        · exact a4 x (by omega) b2⟩
theorem not_hull {n : Nat} {z : Nat → Int} {i : Nat} (hi : i < n) (h : ¬ Hul n z i) : ∃ p q, p < i ∧ i < q ∧ q < n ∧ Hul n z p ∧ Hul n z q ∧ Und z p (z p) q (z q) i := by
  have h0 : 0 < i := by
    rcases Nat.eq_zero_or_pos i with e | e
    · subst e; exact absurd (fun a b h => by omega) h
    · exact e
  have h1 : i + 1 < n := by
    rcases Nat.lt_or_ge (i + 1) n with e | e
    · exact e
    · exact absurd (fun a b g1 g2 g3 => by omega) h
  obtain ⟨p, a1, a2, a3⟩ := near_left (n := n) (z := z) i h0
  obtain ⟨q, b1, b2, b3, b4⟩ := near_right (n - 1 - (i + 1)) i (by omega) h (by omega)
  refine ⟨p, q, a1, b1, b2, a2, b3, ?_⟩
  refine hull_free (by omega) b2 a2 b3 (fun x c1 c2 => ?_) i a1 b1
  by_cases e : x = i
  · rw [e]; exact h
  · by_cases e2 : x < i
    · exact a3 x c1 e2
    · exact b4 x (by omega) c2
theorem hul_low {n : Nat} {z : Nat → Int} {j i : Nat} {x : Int} (hj : j < n) (hnh : ¬ Hul n z j) (hx : x ≤ z j) (hi : i < n) : Hul n (setZ z j x) i ↔ Hul n z i := by
  constructor
  · intro h
    refine Classical.byContradiction fun hn => ?_
    obtain ⟨p, q, a1, a2, a3, a4, a5, a6⟩ := not_hull hi hn
    have ep : p ≠ j := fun e => hnh (e ▸ a4)
    have eq : q ≠ j := fun e => hnh (e ▸ a5)
    refine h p q a1 a2 a3 ?_
    rw [setZ_far _ _ _ _ ep, setZ_far _ _ _ _ eq]
    unfold Und at *
    by_cases e : i = j
    · subst e
      rw [setZ_at]
      exact Int.le_trans (Int.mul_le_mul_of_nonneg_right hx (by omega)) a6
    · rw [setZ_far _ _ _ _ e]; exact a6
  · intro h a b h1 h2 h3 hu
    have ei : i ≠ j := fun e => hnh (e ▸ h)
    refine h a b h1 h2 h3 ?_
    unfold Und at *
    rw [setZ_far _ _ _ _ ei] at hu
    have ha : setZ z j x a ≤ z a := by
      by_cases e : a = j
      · subst e; rw [setZ_at]; exact hx
      · rw [setZ_far _ _ _ _ e]; omega
    have hb : setZ z j x b ≤ z b := by
      by_cases e : b = j
      · subst e; rw [setZ_at]; exact hx
      · rw [setZ_far _ _ _ _ e]; omega
    have m1 := Int.mul_le_mul_of_nonneg_right ha (show 0 ≤ (b : Int) - i by omega)
    have m2 := Int.mul_le_mul_of_nonneg_right hb (show 0 ≤ (i : Int) - a by omega)
    omega
theorem huL_low {n : Nat} {z : Nat → Int} {j : Nat} {x : Int} (hj : j < n) (hnh : ¬ Hul n z j) (hx : x ≤ z j) : huL n (setZ z j x) n = huL n z n :=
  huL_congr n (fun i hi => hul_low hj hnh hx hi)
theorem has_hu {n : Nat} {z : Nat → Int} {j : Nat} (hj : j < n) : decide ((j : Int) ∈ huL n z n) = huB n z j := by
  by_cases h : Hul n z j
  · rw [huB_yes h, decide_eq_true_iff]
    exact (huL_mem n z n j).2 ⟨j, hj, rfl, h⟩
  · rw [huB_no h, decide_eq_false_iff_not]
    intro g
    obtain ⟨k, _, e, hs⟩ := (huL_mem n z n j).1 g
    have : k = j := by omega
    subst this
    exact h hs

end Go.Proofs.Ytgcebhmenffbjab
