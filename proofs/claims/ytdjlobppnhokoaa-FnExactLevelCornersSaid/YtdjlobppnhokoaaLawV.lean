/- The exact law of GridValid: its walk. -/
import Derived.Test.YtdjlobppnhokoaaImplC
namespace Go.Proofs.Ytdjlobppnhokoaa
open Go.RowKit
set_option linter.unusedVariables false

/-- what a law leaves: true, and all that was there -/
def LawPost (w : World) (e : Ending) (w' : World) : Prop := e = .returned (.bool true) ∧ Below w.heap.size w w'

theorem EqPost.below {b : Bool} {w w' : World} {e : Ending} (h : EqPost b w e w') : e = .returned (.bool b) ∧ Below w.heap.size w w' := by
  obtain ⟨h1, n, rfl⟩ := h
  exact ⟨h1, below_drewN (Below.refl _ _) n⟩

theorem RdM.keep {lo hi : Nat} {w w' : World} {v : Value} {g : G} (h : RdM lo hi w v g) (hb : Below hi w w') : RdM lo hi w' v g := h.same (SameIn.below hb (Nat.le_refl _))
theorem OwM.keep {lo hi : Nat} {w w' : World} {v : Value} {g : G} (h : OwM lo hi w v g) (hb : Below hi w w') : OwM lo hi w' v g := h.same (SameIn.below hb (Nat.le_refl _))

end Go.Proofs.Ytdjlobppnhokoaa
