/- Two grids side by side: what is reckoned of their common side; the model's GridsGap and GridsAgree. -/
import Derived.Test.YteoncpifjifjlaaM2
import Derived.Lib.MinMax
namespace Go.Proofs.Yteoncpifjifjlaa
open Go.RowKit
set_option linter.unusedVariables false

/-- an integer without its sign -/
def absI (n : Int) : Int := max n (0 - n)
theorem absI_sub (x y : Int) : absI (x - y) = max (x - y) (y - x) := by unfold absI; omega
theorem absI_range {n : Int} (h1 : -99 ≤ n) (h2 : n ≤ 99) : 0 ≤ absI n ∧ absI n ≤ 99 := by unfold absI; omega

/-- two grids of as many rows -/
def RwOk (a b : G) : Prop := a.Valid ∧ b.Valid ∧ a.n = b.n
noncomputable def rwB (a b : G) : Bool := @decide (RwOk a b) (Classical.propDecidable _)
theorem rwB_yes {a b : G} (h : RwOk a b) : rwB a b = true := by simp [rwB, h]
theorem rwB_no {a b : G} (h : ¬ RwOk a b) : rwB a b = false := by simp [rwB, h]

/-- the difference of row r at the common side, and the sum of the first ones -/
def dfV (a b : G) (r : Nat) : Int := a.z r (a.len 0 - 1) - b.z r 0
def gapS (a b : G) : Nat → Int
  | 0 => 0
  | r + 1 => gapS a b r + absI (dfV a b r)
theorem dfV_range {a b : G} (h : RwOk a b) {r : Nat} (hr : r < a.n) : -99 ≤ dfV a b r ∧ dfV a b r ≤ 99 := by
  obtain ⟨ha, hb, hn⟩ := h
  have h1 := ha.2.2 r hr
  have h2 := hb.2.2 r (by omega)
  have a1 := ha.2.1.1
  have b1 := hb.2.1.1
  have h3 := h1.2 (a.len 0 - 1) (by omega)
  have h4 := h2.2 0 (by omega)
  unfold dfV; omega
theorem gapS_ok {a b : G} (h : RwOk a b) : ∀ r, r ≤ a.n → 0 ≤ gapS a b r ∧ gapS a b r ≤ 99 * r
  | 0, _ => by simp [gapS]
  | r + 1, hr => by
    have h1 := gapS_ok h r (by omega)
    have h2 := dfV_range h (r := r) (by omega)
    have h3 := absI_range h2.1 h2.2
    simp only [gapS]; omega
noncomputable def gapV (a b : G) : Int := if rwB a b = true then gapS a b a.n else -1
theorem gapV_yes {a b : G} (h : RwOk a b) : gapV a b = gapS a b a.n := by simp [gapV, rwB_yes h]
theorem gapV_no {a b : G} (h : ¬ RwOk a b) : gapV a b = -1 := by simp [gapV, rwB_no h]
theorem gapV_range (a b : G) : -1 ≤ gapV a b ∧ gapV a b ≤ 1000 := by
  by_cases h : RwOk a b
  · have h1 := gapS_ok h a.n (Nat.le_refl _)
    have h2 := h.1.1.2
    rw [gapV_yes h]; omega
  · rw [gapV_no h]; omega

theorem l7Size_any (n : Int) (w : World) (h1 : -1000000 ≤ n) (h2 : n ≤ 1000000) :
    Calls Try.prog 11 #[.int .i64 n] w fun e w' => e = .returned (.int .i64 (absI n)) ∧ w' = w := by
  go_enter Try.func11, Try.ntmps11
  go_wp2
  go_ret
  exact ⟨ret_int (by unfold absI; omega), rfl⟩

end Go.Proofs.Yteoncpifjifjlaa
