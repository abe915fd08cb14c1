/- Profiles of the program: what is one, which points it has, the sight between two eyes as a closure, who sees whom. -/
import Derived.Test.YthelaffjpmcdbaaPrM
namespace Go.Proofs.Ythelaffjpmcdbaa
open Go.RowKit
set_option linter.unusedVariables false

theorem cells2e {w : World} {b : Nat} {x y : Value} {t : TypeId} (h : w.heap[b]? = some (.cells #[x, y] t (0, 0))) :
    w.cell? ⟨b, 0, none⟩ = some x ∧ w.cell? ⟨b, 1, none⟩ = some y ∧ w.frozen? ⟨b, 0, none⟩ = false ∧ w.frozen? ⟨b, 1, none⟩ = false :=
  ⟨by simp [World.cell?, h], by simp [World.cell?, h], by simp [World.frozen?, h], by simp [World.frozen?, h]⟩
/-- an eye -/
def eyeV (a : Nat) (ha : Int) : Value := .agg #[.int .i64 a, .int .i64 ha]

noncomputable def unB (z : Nat → Int) (a : Nat) (ha : Int) (b : Nat) (hb : Int) (j : Nat) : Bool := @decide (Und z a ha b hb j) (Classical.propDecidable _)
theorem unB_yes {z : Nat → Int} {a b j : Nat} {ha hb : Int} (h : Und z a ha b hb j) : unB z a ha b hb j = true := by simp [unB, h]
theorem unB_no {z : Nat → Int} {a b j : Nat} {ha hb : Int} (h : ¬ Und z a ha b hb j) : unB z a ha b hb j = false := by simp [unB, h]

end Go.Proofs.Ythelaffjpmcdbaa
