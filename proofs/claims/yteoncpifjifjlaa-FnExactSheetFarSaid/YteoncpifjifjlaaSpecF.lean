/- The model's GridRaise and GridInvert. -/
import Derived.Test.YteoncpifjifjlaaImplG
namespace Go.Proofs.Yteoncpifjifjlaa
open Go.RowKit
set_option linter.unusedVariables false

/-- heights times a number plus another one -/
def chgG (g : G) (t k : Int) : G := { n := g.n, len := g.len, z := fun r c => t * g.z r c + k }
/-- the rows below r are changed, and those of row r below column c -/
def midG (g : G) (t k : Int) (r c : Nat) : G := { n := g.n, len := g.len, z := fun i j => if i < r ∨ (i = r ∧ j < c) then t * g.z i j + k else g.z i j }

theorem Rd_below {lo hi : Nat} {w w' : World} {v : Value} {g : G} (h : RdM lo hi w v g) (hb : Below w.heap.size w w') (hh : hi ≤ w.heap.size) : RdM lo hi w' v g := h.same (SameIn.below hb hh)

theorem below_drew {B : Nat} (w : World) : Below B w w.drew := ⟨rfl, rfl, rfl, Nat.le_refl _, fun _ _ => rfl⟩

/-- what l1Change leaves: the changed grid, if it is one -/
def ChPost (g : G) (t k : Int) (w : World) (e : Ending) (w' : World) : Prop :=
  ((chgG g t k).Valid → SPost true (chgG g t k) w e w') ∧ (¬ (chgG g t k).Valid → SPost false G0 w e w')

theorem raise_eqv (g : G) (k : Int) : G.Eqv (chgG g 1 k) { n := g.n, len := g.len, z := fun r c => g.z r c + k } :=
  ⟨rfl, fun r hr => ⟨rfl, fun c hc => by simp [chgG]⟩⟩

/-- what GridRaise asks, and its answer -/
def raiseG (g : G) (k : Int) : G := { n := g.n, len := fun _ => g.len 0, z := fun r c => g.z r c + k }
def G.RaiseOk (g : G) (k : Int) : Prop := g.Valid ∧ (-99 ≤ k ∧ k ≤ 99) ∧ (raiseG g k).Valid

theorem chg_raise {g : G} (h : g.Valid) (k : Int) : G.Eqv (chgG g 1 k) (raiseG g k) := ⟨rfl, fun r hr => ⟨(h.2.2 r hr).1, fun c hc => by simp only [chgG, raiseG]; omega⟩⟩
theorem chg_raise_valid {g : G} (h : g.Valid) (k : Int) : (chgG g 1 k).Valid ↔ (raiseG g k).Valid := by
  constructor
  · rintro ⟨h1, h2, h3⟩
    refine ⟨h1, h2, fun r hr => ⟨rfl, fun c hc => ?_⟩⟩
    have := (h3 r hr).2 c (by have := (h.2.2 r hr).1; simp only [chgG, raiseG] at *; omega)
    simp only [chgG, raiseG] at *
    omega
  · rintro ⟨h1, h2, h3⟩
    refine ⟨h1, h2, fun r hr => ⟨(h.2.2 r hr).1, fun c hc => ?_⟩⟩
    have := (h3 r hr).2 c (by have := (h.2.2 r hr).1; simp only [chgG, raiseG] at *; omega)
    simp only [chgG, raiseG] at *
    omega

def RsPost (g : G) (k : Int) (w : World) (e : Ending) (w' : World) : Prop := (g.RaiseOk k → SPost true (raiseG g k) w e w') ∧ (¬ g.RaiseOk k → SPost false G0 w e w')

end Go.Proofs.Yteoncpifjifjlaa
