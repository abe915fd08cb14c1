/- Neighbors of a cell, by index: what is reckoned. -/
import Derived.Test.YtdjlobppnhokoaaBase
namespace Go.Proofs.Ytdjlobppnhokoaa
set_option linter.unusedVariables false

/-- an index below M -/
abbrev Ix (M : Nat) := {x : Nat // x < M}

theorem east_lt {R C i : Nat} (h : i < R * C) (h2 : i % C + 1 < C) : i + 1 < R * C := by
  have h0 : 0 < C := by omega
  have e := Nat.div_add_mod i C
  have d : i / C < R := (Nat.div_lt_iff_lt_mul h0).2 h
  have m : (i / C + 1) * C ≤ R * C := Nat.mul_le_mul_right C d
  rw [Nat.add_mul, Nat.one_mul, Nat.mul_comm] at m
  omega

/-- the k-th neighbor, if it is there: north, east, south, west -/
def nb (R C : Nat) (i : Ix (R * C)) (k : Nat) : Option (Ix (R * C)) :=
  if k = 0 then (if C ≤ i.1 then some ⟨i.1 - C, by have := i.2; omega⟩ else none)
  else if k = 1 then (if h : i.1 % C + 1 < C then some ⟨i.1 + 1, east_lt i.2 h⟩ else none)
  else if k = 2 then (if h : i.1 + C < R * C then some ⟨i.1 + C, h⟩ else none)
  else (if 0 < i.1 % C then some ⟨i.1 - 1, by have := i.2; omega⟩ else none)

def near (R C : Nat) (i : Ix (R * C)) (k : Nat) : List (Ix (R * C)) := (List.range k).filterMap (nb R C i)

theorem near_succ (R C : Nat) (i : Ix (R * C)) (k : Nat) : near R C i (k + 1) = near R C i k ++ (nb R C i k).toList := by
  unfold near
  rw [List.range_succ, List.filterMap_append]
  cases h : nb R C i k <;> simp [h]

theorem near_some {R C : Nat} {i : Ix (R * C)} {k : Nat} {x : Ix (R * C)} (h : nb R C i k = some x) : near R C i (k + 1) = near R C i k ++ [x] := by rw [near_succ, h]; rfl
theorem near_none {R C : Nat} {i : Ix (R * C)} {k : Nat} (h : nb R C i k = none) : near R C i (k + 1) = near R C i k := by rw [near_succ, h]; simp

theorem near_len (R C : Nat) (i : Ix (R * C)) : ∀ k, (near R C i k).length ≤ k
  | 0 => by simp [near]
  | k + 1 => by
    rw [near_succ, List.length_append]
    have := near_len R C i k
    cases nb R C i k <;> simp <;> omega

theorem near_pre (R C : Nat) (i : Ix (R * C)) (k j : Nat) (h : k ≤ j) : near R C i k <+: near R C i j := by
  induction j with
  | zero => have : k = 0 := by omega
            subst this; exact List.prefix_refl _
  | succ j ih =>
    by_cases e : k = j + 1
    · subst e; exact List.prefix_refl _
    · rw [near_succ]; exact (ih (by omega)).trans (List.prefix_append _ _)

def dy (k : Nat) : Int := if k = 0 then -1 else if k = 2 then 1 else 0
def dx (k : Nat) : Int := if k = 1 then 1 else if k = 3 then -1 else 0
theorem dy_range (k : Nat) : -1 ≤ dy k ∧ dy k ≤ 1 := by unfold dy; repeat' split
                                                        all_goals omega
theorem dx_range (k : Nat) : -1 ≤ dx k ∧ dx k ≤ 1 := by unfold dx; repeat' split
                                                        all_goals omega

theorem nb_at (R C : Nat) (i : Ix (R * C)) (k r c : Nat) (hk : k < 4) (hc : c < C) (hr : r < R) (e : C * r + c = i.1) (em : i.1 % C = c) (y x : Int) (hy : y = r + dy k) (hx : x = c + dx k) :
    (∃ z, nb R C i k = some z ∧ 0 ≤ y ∧ y < R ∧ 0 ≤ x ∧ x < C ∧ y * C + x = (z.1 : Int)) ∨ (nb R C i k = none ∧ ¬ (0 ≤ y ∧ y < R ∧ 0 ≤ x ∧ x < C)) := by
  have hcase : k = 0 ∨ k = 1 ∨ k = 2 ∨ k = 3 := by omega
  have e1 : (r : Int) * (C : Int) + c = (i.1 : Int) := by rw [← e, Nat.mul_comm]; simp
  have ep : ((r : Int) + 1) * (C : Int) = (r : Int) * C + C := by rw [Int.add_mul, Int.one_mul]
  have en : ((r : Int) - 1) * (C : Int) = (r : Int) * C - C := by rw [Int.sub_mul, Int.one_mul]
  rcases hcase with rfl | rfl | rfl | rfl
  · simp only [dy, dx, if_true] at hy hx
    by_cases h : 1 ≤ r
    · have h2 : C ≤ i.1 := by
        have := Nat.mul_le_mul_left C h
        omega
      refine Or.inl ⟨⟨i.1 - C, by have := i.2; omega⟩, by simp [nb, h2], by omega, by omega, by omega, by omega, ?_⟩
      have : y = (r : Int) - 1 := by omega
      rw [this, en]; simp only; omega
    · have h2 : ¬ C ≤ i.1 := by
        have : r = 0 := by omega
        subst this
        omega
      exact Or.inr ⟨by simp [nb, h2], by omega⟩
  · simp [dy, dx] at hy hx
    by_cases h : c + 1 < C
    · refine Or.inl ⟨⟨i.1 + 1, east_lt i.2 (by omega)⟩, by simp [nb, em, h], by omega, by omega, by omega, by omega, ?_⟩
      have : y = (r : Int) := by omega
      rw [this]; simp only; omega
    · exact Or.inr ⟨by simp [nb, em, h], by omega⟩
  · simp [dy, dx] at hy hx
    by_cases h : r + 1 < R
    · have h2 : i.1 + C < R * C := by
        have m : (r + 1 + 1) * C ≤ R * C := Nat.mul_le_mul_right C h
        rw [Nat.add_mul, Nat.add_mul, Nat.one_mul, Nat.mul_comm] at m
        omega
      refine Or.inl ⟨⟨i.1 + C, h2⟩, by simp [nb, h2], by omega, by omega, by omega, by omega, ?_⟩
      have : y = (r : Int) + 1 := by omega
      rw [this, ep]; simp only; omega
    · have h2 : ¬ i.1 + C < R * C := by
        have m : R * C ≤ (r + 1) * C := Nat.mul_le_mul_right C (by omega)
        rw [Nat.add_mul, Nat.one_mul, Nat.mul_comm r] at m
        omega
      exact Or.inr ⟨by simp [nb, h2], by omega⟩
  · simp [dy, dx] at hy hx
    by_cases h : 0 < c
    · refine Or.inl ⟨⟨i.1 - 1, by have := i.2; omega⟩, by simp [nb, em, h], by omega, by omega, by omega, by omega, ?_⟩
      have : y = (r : Int) := by omega
      rw [this]; simp only; omega
    · exact Or.inr ⟨by simp [nb, em, h], by omega⟩

/-- the cell to which water flows, after the neighbors l -/
def flowTo {M : Nat} (Z : Nat → Int) (i : Ix M) (l : List (Ix M)) : Ix M := l.foldl (fun b n => if Z n.1 < Z b.1 then n else b) i
theorem flowTo_snoc {M : Nat} (Z : Nat → Int) (i : Ix M) (l : List (Ix M)) (x : Ix M) : flowTo Z i (l ++ [x]) = if Z x.1 < Z (flowTo Z i l).1 then x else flowTo Z i l := by unfold flowTo; rw [List.foldl_append]; rfl

def nxt (R C : Nat) (Z : Nat → Int) (i : Ix (R * C)) : Ix (R * C) := flowTo Z i (near R C i 4)

end Go.Proofs.Ytdjlobppnhokoaa
