/- Cells and heights of a grid, by index, in the promises' laws. -/
import Derived.Test.YtgcebhmenffbjabPBase
import Derived.Test.YtgcebhmenffbjabRange
namespace Go.Proofs.Ytgcebhmenffbjab
open Go.RowKit
set_option linter.unusedVariables false

def NatPost (n : Nat) (w : World) (e : Ending) (w' : World) : Prop := e = .returned (.int .i64 n) ∧ w = w'

set_option maxHeartbeats 400000 in
theorem cellsOf_any (v : Value) (lo hi : Nat) (g : G) (w : World) (hv : RdM lo hi w v g) (h : g.Valid) :
    Calls Try.prog 51 #[v] w (NatPost (g.n * g.len 0) w) := by
  obtain ⟨b, off, cap, rfl⟩ := hv.shape h.1.1
  obtain ⟨a1, c1, h1⟩ := hv.head h.1.1 (g.len 0) rfl
  have h2 : (0 : Int) < g.n := by have := h.1.1; omega
  have h3 : (g.n : Int) * (g.len 0 : Int) = ((g.n * g.len 0 : Nat) : Int) := (Int.natCast_mul _ _).symm
  have h4 : 0 ≤ (g.n : Int) * (g.len 0 : Int) ∧ (g.n : Int) * (g.len 0 : Int) ≤ 49 := by rw [h3]; have := mul_le_49 h.1.2 h.2.1.2; omega
  obtain ⟨h5, h6⟩ := h4
  have H3 := Lib.hid h3
  clear h3 h hv
  go_enter Try.func51, Try.ntmps51
  go_wp2
  go_ret
  exact ⟨ret_int H3.out, rfl⟩

/-- a height that is read: the order of the reads is drawn -/
def HtPost (z : Int) (w : World) (e : Ending) (w' : World) : Prop := e = .returned (.int .i64 z) ∧ ∃ n, w' = w.drewN n

theorem HtPost.below {z : Int} {w w' : World} {e : Ending} (h : HtPost z w e w') : e = .returned (.int .i64 z) ∧ Below w.heap.size w w' := by
  obtain ⟨h1, n, rfl⟩ := h
  exact ⟨h1, below_drewN (Below.refl _ _) n⟩

theorem div_lt {i n m : Nat} (hm : 0 < m) (h : i < n * m) : i / m < n ∧ i % m < m := ⟨(Nat.div_lt_iff_lt_mul hm).2 h, Nat.mod_lt _ hm⟩

/-- is m among the first k numbers? -/
def anyEq (Z : Nat → Int) (m : Int) : Nat → Bool
  | 0 => false
  | k + 1 => anyEq Z m k || (Z k == m)

theorem anyEq_of {Z : Nat → Int} {m : Int} {k i : Nat} (hi : i < k) (h : Z i = m) : anyEq Z m k = true := by
  induction k with
  | zero => omega
  | succ k ih =>
    by_cases e : i = k
    · subst e; simp [anyEq, h]
    · simp [anyEq, ih (by omega)]

theorem mn_le (Z : Nat → Int) : ∀ k i, i < k → mn Z k ≤ Z i
  | 0, i, h => by omega
  | k + 1, i, h => by
    by_cases e : i = k
    · subst e; simp only [mn]; omega
    · have := mn_le Z k i (by omega); simp only [mn]; omega
theorem le_mx (Z : Nat → Int) : ∀ k i, i < k → Z i ≤ mx Z k
  | 0, i, h => by omega
  | k + 1, i, h => by
    by_cases e : i = k
    · subst e; simp only [mx]; omega
    · have := le_mx Z k i (by omega); simp only [mx]; omega
theorem mn_is (Z : Nat → Int) : ∀ k, 0 < k → ∃ i, i < k ∧ Z i = mn Z k
  | 0, h => by omega
  | 1, _ => ⟨0, by omega, by simp [mn]⟩
  | k + 2, _ => by
    obtain ⟨i, h1, h2⟩ := mn_is Z (k + 1) (by omega)
    by_cases e : mn Z (k + 1) ≤ Z (k + 1)
    · exact ⟨i, by omega, by rw [h2]; simp only [mn] at *; omega⟩
    · exact ⟨k + 1, by omega, by simp only [mn] at *; omega⟩
theorem mx_is (Z : Nat → Int) : ∀ k, 0 < k → ∃ i, i < k ∧ Z i = mx Z k
  | 0, h => by omega
  | 1, _ => ⟨0, by omega, by simp [mx]⟩
  | k + 2, _ => by
    obtain ⟨i, h1, h2⟩ := mx_is Z (k + 1) (by omega)
    by_cases e : Z (k + 1) ≤ mx Z (k + 1)
    · exact ⟨i, by omega, by rw [h2]; simp only [mx] at *; omega⟩
    · exact ⟨k + 1, by omega, by simp only [mx] at *; omega⟩

theorem G.flat_ok {g : G} (h : g.Valid) {i : Nat} (hi : i < g.n * g.len 0) : 0 ≤ g.flat i ∧ g.flat i ≤ 99 := by
  obtain ⟨d1, d2⟩ := div_lt h.2.1.1 hi
  exact (h.2.2 _ d1).2 _ (by rw [(h.2.2 _ d1).1]; exact d2)

end Go.Proofs.Ytgcebhmenffbjab
