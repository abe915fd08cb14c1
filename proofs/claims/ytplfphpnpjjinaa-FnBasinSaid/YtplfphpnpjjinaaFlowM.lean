/- Flow: in how many runs a cell is. What is reckoned. -/
import Derived.Test.YtplfphpnpjjinaaOwnRow
namespace Go.Proofs.Ytplfphpnpjjinaa
set_option linter.unusedVariables false

/-- how often a list holds a cell -/
def cntL {M : Nat} (l : List (Ix M)) (j : Nat) : Nat := l.countP (fun x => x.1 == j)
theorem cntL_nil {M : Nat} (j : Nat) : cntL ([] : List (Ix M)) j = 0 := rfl
theorem cntL_snoc {M : Nat} (l : List (Ix M)) (x : Ix M) (j : Nat) : cntL (l ++ [x]) j = cntL l j + (if j = x.1 then 1 else 0) := by
  unfold cntL
  rw [List.countP_append]
  by_cases e : j = x.1
  · rw [if_pos e]; simp [e]
  · rw [if_neg e]; simp; exact fun h => e h.symm
theorem cntL_le {M : Nat} (l : List (Ix M)) (j : Nat) : cntL l j ≤ l.length := List.countP_le_length

/-- in how many of the runs of the cells below k the cell j is -/
def flN (R C : Nat) (Z : Nat → Int) : Nat → Nat → Nat
  | 0, _ => 0
  | k + 1, j => flN R C Z k j + (if h : k < R * C then cntL (runL R C Z ⟨k, h⟩) j else 0)
theorem flN_succ {R C : Nat} {Z : Nat → Int} (i : Ix (R * C)) (j : Nat) : flN R C Z (i.1 + 1) j = flN R C Z i.1 j + cntL (runL R C Z i) j := by
  have e : (⟨i.1, i.2⟩ : Ix (R * C)) = i := rfl
  simp only [flN, i.2, dif_pos]
theorem flN_le (R C : Nat) (Z : Nat → Int) : ∀ k j, flN R C Z k j ≤ 100 * k
  | 0, _ => Nat.le_refl _
  | k + 1, j => by
    have ih := flN_le R C Z k j
    unfold flN
    split
    · rename_i h
      have h1 := cntL_le (runL R C Z ⟨k, h⟩) j
      have h2 := runL_len R C Z ⟨k, h⟩
      omega
    · omega

/-- the row of counts: the runs below k, and what has come of the next -/
def flF (R C : Nat) (Z : Nat → Int) (k : Nat) (pre : List (Ix (R * C))) (j : Nat) : Value := .int .i64 (flN R C Z k j + cntL pre j : Nat)
theorem flF_start {R C : Nat} {Z : Nat → Int} (j : Nat) : flF R C Z 0 [] j = .int .i64 0 := rfl
theorem flF_put {R C : Nat} {Z : Nat → Int} (k : Nat) (pre : List (Ix (R * C))) (x : Ix (R * C)) (m : Nat) (hm : flN R C Z k x.1 + cntL pre x.1 = m) (j : Nat) : (if j = x.1 then Value.int .i64 ((m + 1 : Nat) : Int) else flF R C Z k pre j) = flF R C Z k (pre ++ [x]) j := by
  unfold flF
  rw [cntL_snoc]
  by_cases e : j = x.1
  · rw [if_pos e, if_pos e, e, ← hm]; congr 1
  · rw [if_neg e, if_neg e]; rfl
theorem flF_next {R C : Nat} {Z : Nat → Int} (i : Ix (R * C)) (j : Nat) : flF R C Z i.1 (runL R C Z i) j = flF R C Z (i.1 + 1) [] j := by
  unfold flF
  rw [flN_succ, cntL_nil]; rfl

/-- the flow of a grid: how many numbers, and which -/
noncomputable def G.flW (g : G) : Nat := open Classical in if g.Valid then g.n * g.len 0 else 0
theorem G.flW_yes {g : G} (h : g.Valid) : g.flW = g.n * g.len 0 := by unfold G.flW; rw [if_pos h]
theorem G.flW_no {g : G} (h : ¬ g.Valid) : g.flW = 0 := by unfold G.flW; rw [if_neg h]
def G.flZ (g : G) (j : Nat) : Int := (flN g.n (g.len 0) g.flat (g.n * g.len 0) j : Nat)
theorem G.flZ_range (g : G) (h : g.n * g.len 0 ≤ 49) (j : Nat) : 0 ≤ g.flZ j ∧ g.flZ j ≤ 4900 := by
  have := flN_le g.n (g.len 0) g.flat (g.n * g.len 0) j
  unfold G.flZ; omega

end Go.Proofs.Ytplfphpnpjjinaa
