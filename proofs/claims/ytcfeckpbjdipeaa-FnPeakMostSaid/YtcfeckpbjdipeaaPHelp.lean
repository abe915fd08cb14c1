/- Cells and heights of a grid, by index, in the promises' laws. -/
import Derived.Test.YtcfeckpbjdipeaaDrR
import Derived.Test.YtcfeckpbjdipeaaGrZ
namespace Go.Proofs.Ytcfeckpbjdipeaa
open Go.RowKit
set_option linter.unusedVariables false

def NatPost (n : Nat) (w : World) (e : Ending) (w' : World) : Prop := e = .returned (.int .i64 n) ∧ w = w'

set_option maxHeartbeats 400000 in
theorem cellsOf_any (v : Value) (lo hi : Nat) (g : G) (w : World) (hv : RdM lo hi w v g) (h : g.Valid) :
    Calls Try.prog 24 #[v] w (NatPost (g.n * g.len 0) w) := by
  obtain ⟨b, off, cap, rfl⟩ := hv.shape h.1.1
  obtain ⟨a1, c1, h1⟩ := hv.head h.1.1 (g.len 0) rfl
  have h2 : (0 : Int) < g.n := by have := h.1.1; omega
  have h3 : (g.n : Int) * (g.len 0 : Int) = ((g.n * g.len 0 : Nat) : Int) := (Int.natCast_mul _ _).symm
  have h4 : 0 ≤ (g.n : Int) * (g.len 0 : Int) ∧ (g.n : Int) * (g.len 0 : Int) ≤ 49 := by rw [h3]; have := mul_le_49 h.1.2 h.2.1.2; omega
  obtain ⟨h5, h6⟩ := h4
  have H3 := Lib.hid h3
  clear h3 h hv
  go_enter Try.func24, Try.ntmps24
  go_wp2
  go_ret
  exact ⟨ret_int H3.out, rfl⟩

/-- a height that is read: the order of the reads is drawn -/
def HtPost (z : Int) (w : World) (e : Ending) (w' : World) : Prop := e = .returned (.int .i64 z) ∧ ∃ n, w' = w.drewN n

theorem HtPost.below {z : Int} {w w' : World} {e : Ending} (h : HtPost z w e w') : e = .returned (.int .i64 z) ∧ Below w.heap.size w w' := by
  obtain ⟨h1, n, rfl⟩ := h
  exact ⟨h1, below_drewN (Below.refl _ _) n⟩

theorem div_lt {i n m : Nat} (hm : 0 < m) (h : i < n * m) : i / m < n ∧ i % m < m := ⟨(Nat.div_lt_iff_lt_mul hm).2 h, Nat.mod_lt _ hm⟩

set_option maxHeartbeats 1000000 in
set_option maxRecDepth 20000 in
theorem heightOf_any (v : Value) (lo hi : Nat) (g : G) (i : Nat) (w : World) (hv : RdM lo hi w v g) (h : g.Valid) (hi' : i < g.n * g.len 0) :
    Calls Try.prog 18 #[v, .int .i64 i] w (HtPost (g.flat i) w) := by
  obtain ⟨d1, d2⟩ := div_lt h.2.1.1 hi'
  have hl := (h.2.2 _ d1).1
  obtain ⟨b, off, cap, b1, off1, cp, rfl, p1, p2, _, _⟩ := hv.cellAt d1 (show i % g.len 0 < g.len (i / g.len 0) by omega)
  obtain ⟨a1, c1, h1⟩ := hv.head h.1.1 (g.len 0) rfl
  obtain ⟨r, er⟩ : ∃ r, r = i / g.len 0 := ⟨_, rfl⟩
  obtain ⟨c, ec⟩ : ∃ c, c = i % g.len 0 := ⟨_, rfl⟩
  have t1 : (i : Int) / (g.len 0 : Int) = (r : Int) := by rw [er]; exact (Int.natCast_ediv _ _).symm
  have t2 : (i : Int) % (g.len 0 : Int) = (c : Int) := by rw [ec]; exact (Int.natCast_emod _ _).symm
  rw [← er] at p1 p2 d1 hl
  rw [← ec] at p2 d2
  rw [hl] at p1
  have HF := Lib.hid (show g.z r c = g.flat i by rw [er, ec]; rfl)
  have h49 := mul_le_49 h.1.2 h.2.1.2
  have d1' : (r : Int) < g.n := by omega
  have d2' : (c : Int) < g.len 0 := by omega
  have h2 : (0 : Int) < g.n := by omega
  have h3 : (0 : Int) < g.len 0 := by omega
  have h3' : ¬ (g.len 0 : Int) = 0 := by omega
  have h3'' : ((g.len 0 : Int) == 0) = false := by rw [beq_eq_false_iff_ne]; omega
  have h4 : (i : Int) ≤ 48 := by omega
  have h4' : i ≤ 48 := by omega
  have h6 : g.len 0 ≤ 7 := h.2.1.2
  have h8 : 0 < g.len 0 := h.2.1.1
  have h7 : (g.len 0 : Int) ≤ 7 := by omega
  have h5 : 0 < g.n := by omega
  have h10 : (r : Int) ≤ 7 := by have := h.1.2; omega
  have h11 : (c : Int) ≤ 7 := by omega
  clear h hv er ec hl hi'
  generalize g.len 0 = L at p1 h1 t1 t2 d2 d2' h3 h3' h3'' h6 h7 h8
  go_enter Try.func18, Try.ntmps18
  go_wp2
  go_quiet (fail)
  go_wp2
  go_ret
  exact ⟨ret_int HF.out, _, rfl⟩

/-- is m among the first k numbers? -/
def anyEq (Z : Nat → Int) (m : Int) : Nat → Bool
  | 0 => false
  | k + 1 => anyEq Z m k || (Z k == m)

theorem anyEq_of {Z : Nat → Int} {m : Int} {k i : Nat} (hi : i < k) (h : Z i = m) : anyEq Z m k = true := by
  induction k with
  | zero => omega
  | succ k ih =>
    by_cases e : i = k
    · subst e; simp [anyEq, h]
    · simp [anyEq, ih (by omega)]

theorem mn_le (Z : Nat → Int) : ∀ k i, i < k → mn Z k ≤ Z i
  | 0, i, h => by omega
  | k + 1, i, h => by
    by_cases e : i = k
    · subst e; simp only [mn]; omega
    · have := mn_le Z k i (by omega); simp only [mn]; omega
theorem le_mx (Z : Nat → Int) : ∀ k i, i < k → Z i ≤ mx Z k
  | 0, i, h => by omega
  | k + 1, i, h => by
    by_cases e : i = k
    · subst e; simp only [mx]; omega
    · have := le_mx Z k i (by omega); simp only [mx]; omega
theorem mn_is (Z : Nat → Int) : ∀ k, 0 < k → ∃ i, i < k ∧ Z i = mn Z k
  | 0, h => by omega
  | 1, _ => ⟨0, by omega, by simp [mn]⟩
  | k + 2, _ => by
    obtain ⟨i, h1, h2⟩ := mn_is Z (k + 1) (by omega)
    by_cases e : mn Z (k + 1) ≤ Z (k + 1)
    · exact ⟨i, by omega, by rw [h2]; simp only [mn] at *; omega⟩
    · exact ⟨k + 1, by omega, by simp only [mn] at *; omega⟩
theorem mx_is (Z : Nat → Int) : ∀ k, 0 < k → ∃ i, i < k ∧ Z i = mx Z k
  | 0, h => by omega
  | 1, _ => ⟨0, by omega, by simp [mx]⟩
  | k + 2, _ => by
    obtain ⟨i, h1, h2⟩ := mx_is Z (k + 1) (by omega)
    by_cases e : Z (k + 1) ≤ mx Z (k + 1)
    · exact ⟨i, by omega, by rw [h2]; simp only [mx] at *; omega⟩
    · exact ⟨k + 1, by omega, by simp only [mx] at *; omega⟩

theorem G.flat_ok {g : G} (h : g.Valid) {i : Nat} (hi : i < g.n * g.len 0) : 0 ≤ g.flat i ∧ g.flat i ≤ 99 := by
  obtain ⟨d1, d2⟩ := div_lt h.2.1.1 hi
  exact (h.2.2 _ d1).2 _ (by rw [(h.2.2 _ d1).1]; exact d2)

end Go.Proofs.Ytcfeckpbjdipeaa
