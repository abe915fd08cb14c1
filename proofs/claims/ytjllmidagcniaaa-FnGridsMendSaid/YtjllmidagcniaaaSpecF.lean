/- The model's GridRaise and GridInvert. -/
import Derived.Test.YtjllmidagcniaaaImplG
namespace Go.Proofs.Ytjllmidagcniaaa
open Go.RowKit
set_option linter.unusedVariables false

/-- heights times a number plus another one -/
def chgG (g : G) (t k : Int) : G := { n := g.n, len := g.len, z := fun r c => t * g.z r c + k }
/-- the rows below r are changed, and those of row r below column c -/
def midG (g : G) (t k : Int) (r c : Nat) : G := { n := g.n, len := g.len, z := fun i j => if i < r ∨ (i = r ∧ j < c) then t * g.z i j + k else g.z i j }

theorem Gr.congr {w wr : World} {v : Value} {n B : Nat} {RV : Nat → Value} {g g' : G} (h : Gr w wr v n B RV g) (e : ∀ r, r < n → g.len r = g'.len r ∧ ∀ c, c < g.len r → g.z r c = g'.z r c) : Gr w wr v n B RV g' := by
  obtain ⟨a1, a2, a3, a4, a5, a6, a7⟩ := h
  refine ⟨a1, a2, a3, a4, a5, fun r hr => ?_, a7⟩
  obtain ⟨ys, c1, c2, c3⟩ := a6 r hr
  obtain ⟨e1, e2⟩ := e r hr
  exact ⟨ys, by rw [← e1]; exact c1, c2, fun c hc => by rw [← e2 c (by omega)]; exact c3 c (by omega)⟩

theorem Rd_below {lo hi : Nat} {w w' : World} {v : Value} {g : G} (h : RdM lo hi w v g) (hb : Below w.heap.size w w') (hh : hi ≤ w.heap.size) : RdM lo hi w' v g := h.same (SameIn.below hb hh)

theorem below_drew {B : Nat} (w : World) : Below B w w.drew := ⟨rfl, rfl, rfl, Nat.le_refl _, fun _ _ => rfl⟩

/-- what l1Change leaves: the changed grid, if it is one -/
def ChPost (g : G) (t k : Int) (w : World) (e : Ending) (w' : World) : Prop :=
  ((chgG g t k).Valid → SPost true (chgG g t k) w e w') ∧ (¬ (chgG g t k).Valid → SPost false G0 w e w')

theorem raise_eqv (g : G) (k : Int) : G.Eqv (chgG g 1 k) { n := g.n, len := g.len, z := fun r c => g.z r c + k } :=
  ⟨rfl, fun r hr => ⟨rfl, fun c hc => by simp [chgG]⟩⟩

/-- what GridRaise asks, and its answer -/
def raiseG (g : G) (k : Int) : G := { n := g.n, len := fun _ => g.len 0, z := fun r c => g.z r c + k }
def G.RaiseOk (g : G) (k : Int) : Prop := g.Valid ∧ (-99 ≤ k ∧ k ≤ 99) ∧ (raiseG g k).Valid

theorem chg_raise {g : G} (h : g.Valid) (k : Int) : G.Eqv (chgG g 1 k) (raiseG g k) := ⟨rfl, fun r hr => ⟨(h.2.2 r hr).1, fun c hc => by simp only [chgG, raiseG]; omega⟩⟩
theorem chg_raise_valid {g : G} (h : g.Valid) (k : Int) : (chgG g 1 k).Valid ↔ (raiseG g k).Valid := by
  constructor
  · rintro ⟨h1, h2, h3⟩
    refine ⟨h1, h2, fun r hr => ⟨rfl, fun c hc => ?_⟩⟩
    have := (h3 r hr).2 c (by have := (h.2.2 r hr).1; simp only [chgG, raiseG] at *; omega)
    simp only [chgG, raiseG] at *
    omega
  · rintro ⟨h1, h2, h3⟩
    refine ⟨h1, h2, fun r hr => ⟨(h.2.2 r hr).1, fun c hc => ?_⟩⟩
    have := (h3 r hr).2 c (by have := (h.2.2 r hr).1; simp only [chgG, raiseG] at *; omega)
    simp only [chgG, raiseG] at *
    omega

def RsPost (g : G) (k : Int) (w : World) (e : Ending) (w' : World) : Prop := (g.RaiseOk k → SPost true (raiseG g k) w e w') ∧ (¬ g.RaiseOk k → SPost false G0 w e w')

end Go.Proofs.Ytjllmidagcniaaa
