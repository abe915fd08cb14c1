/- The gap between two reliefs; the program's GridsGap and GridsAgree. -/
import Derived.Test.YteoncpifjifjlaaDoorGpI
namespace Go.Proofs.YteoncpifjifjlaaDoor
open Go.RowKit
set_option linter.unusedVariables false

theorem apart_any (x y : Int) (w : World) (h1 : -1000000 ≤ x - y) (h2 : x - y ≤ 1000000) :
    Calls Tryd.prog 66 #[.int .i64 x, .int .i64 y] w fun e w' => e = .returned (.int .i64 (absI (x - y))) ∧ w' = w := by
  have h3 : -1000000 ≤ y - x := by omega
  have h4 : y - x ≤ 1000000 := by omega
  go_enter Tryd.func66, Tryd.ntmps66
  go_wp2
  go_ret
  exact ⟨ret_int (by unfold absI; omega), rfl⟩

/-- two numbers -/
def TwoPost (x y : Int) (w : World) (e : Ending) (w' : World) : Prop := e = .returned (.tuple #[.int .i64 x, .int .i64 y]) ∧ Below w.heap.size w w'

/-- a relief's heights in a row of their own -/
structure Rr (w : World) (R C n g c : Nat) (Z : Nat → Int) (N : Nat) (F : Nat → Value) : Prop where
  n_eq : n = R * C
  le : n ≤ c
  row : w.rowIs g 3 N F
  leN : n ≤ N
  val : ∀ i, i < n → F i = .int .i64 (Z i)
theorem Rr.cell {w : World} {R C n g c : Nat} {Z : Nat → Int} {N : Nat} {F : Nat → Value} (h : Rr w R C n g c Z N F) {i : Nat} (hi : i < n) : w.cell? ⟨g, i, none⟩ = some (.int .i64 (Z i)) := by
  rw [h.row.cell (by have := h.leN; omega), h.val i hi]
theorem Rr.below {w w' : World} {R C n g c : Nat} {Z : Nat → Int} {N : Nat} {F : Nat → Value} (h : Rr w R C n g c Z N F) {B : Nat} (hb : Below B w w') (hB : w.heap.size ≤ B) : Rr w' R C n g c Z N F :=
  ⟨h.n_eq, h.le, h.row.of_block (hb.block g (by have := h.row.lt; omega)), h.leN, h.val⟩
theorem Rr.rv {w : World} {R C n g c : Nat} {Z : Nat → Int} {N : Nat} {F : Nat → Value} (h : Rr w R C n g c Z N F) : Rv w R C n g c Z :=
  ⟨h.n_eq, h.row.lt, h.le, fun _ hi => h.cell hi⟩

theorem seam_at {R C r : Nat} (hr : r < R) (hC : 1 ≤ C) : r * C + (C - 1) < R * C ∧ r * C < R * C := by
  have h : (r + 1) * C ≤ R * C := Nat.mul_le_mul_right C hr
  rw [Nat.add_mul, Nat.one_mul] at h
  omega

/-- the two grids agree along their side -/
noncomputable def agB (a b : G) : Bool := decide (gapV a b = 0)

end Go.Proofs.YteoncpifjifjlaaDoor
