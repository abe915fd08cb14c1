/- The model's GridRaise and GridInvert. -/
import Derived.Test.YthelaffjpmcdbaaImplG
import Derived.Lib.MinMax
namespace Go.Proofs.Ythelaffjpmcdbaa
open Go.RowKit
set_option linter.unusedVariables false

/-- heights times a number plus another one -/
def chgG (g : G) (t k : Int) : G := { n := g.n, len := g.len, z := fun r c => t * g.z r c + k }
/-- the rows below r are changed, and those of row r below column c -/
def midG (g : G) (t k : Int) (r c : Nat) : G := { n := g.n, len := g.len, z := fun i j => if i < r ∨ (i = r ∧ j < c) then t * g.z i j + k else g.z i j }

theorem Gr.congr {w wr : World} {v : Value} {n B : Nat} {RV : Nat → Value} {g g' : G} (h : Gr w wr v n B RV g) (e : ∀ r, r < n → g.len r = g'.len r ∧ ∀ c, c < g.len r → g.z r c = g'.z r c) : Gr w wr v n B RV g' := by
  obtain ⟨a1, a2, a3, a4, a5, a6, a7⟩ := h
  refine ⟨a1, a2, a3, a4, a5, fun r hr => ?_, a7⟩
  obtain ⟨ys, c1, c2, c3⟩ := a6 r hr
  obtain ⟨e1, e2⟩ := e r hr
  exact ⟨ys, by rw [← e1]; exact c1, c2, fun c hc => by rw [← e2 c (by omega)]; exact c3 c (by omega)⟩

theorem Rd_below {lo hi : Nat} {w w' : World} {v : Value} {g : G} (h : RdM lo hi w v g) (hb : Below w.heap.size w w') (hh : hi ≤ w.heap.size) : RdM lo hi w' v g := h.same (SameIn.below hb hh)

theorem below_drew {B : Nat} (w : World) : Below B w w.drew := ⟨rfl, rfl, rfl, Nat.le_refl _, fun _ _ => rfl⟩

/-- what l1Change leaves: the changed grid, if it is one -/
def ChPost (g : G) (t k : Int) (w : World) (e : Ending) (w' : World) : Prop :=
  ((chgG g t k).Valid → SPost true (chgG g t k) w e w') ∧ (¬ (chgG g t k).Valid → SPost false G0 w e w')

theorem raise_eqv (g : G) (k : Int) : G.Eqv (chgG g 1 k) { n := g.n, len := g.len, z := fun r c => g.z r c + k } :=
  ⟨rfl, fun r hr => ⟨rfl, fun c hc => by simp [chgG]⟩⟩

/-- what GridRaise asks, and its answer -/
def raiseG (g : G) (k : Int) : G := { n := g.n, len := fun _ => g.len 0, z := fun r c => g.z r c + k }
def G.RaiseOk (g : G) (k : Int) : Prop := g.Valid ∧ (-99 ≤ k ∧ k ≤ 99) ∧ (raiseG g k).Valid

theorem chg_raise {g : G} (h : g.Valid) (k : Int) : G.Eqv (chgG g 1 k) (raiseG g k) := ⟨rfl, fun r hr => ⟨(h.2.2 r hr).1, fun c hc => by simp only [chgG, raiseG]; omega⟩⟩
theorem chg_raise_valid {g : G} (h : g.Valid) (k : Int) : (chgG g 1 k).Valid ↔ (raiseG g k).Valid := by
  constructor
  · rintro ⟨h1, h2, h3⟩
    refine ⟨h1, h2, fun r hr => ⟨rfl, fun c hc => ?_⟩⟩
    have := (h3 r hr).2 c (by have := (h.2.2 r hr).1; simp only [chgG, raiseG] at *; omega)
    simp only [chgG, raiseG] at *
    omega
  · rintro ⟨h1, h2, h3⟩
    refine ⟨h1, h2, fun r hr => ⟨(h.2.2 r hr).1, fun c hc => ?_⟩⟩
    have := (h3 r hr).2 c (by have := (h.2.2 r hr).1; simp only [chgG, raiseG] at *; omega)
    simp only [chgG, raiseG] at *
    omega

def RsPost (g : G) (k : Int) (w : World) (e : Ending) (w' : World) : Prop := (g.RaiseOk k → SPost true (raiseG g k) w e w') ∧ (¬ g.RaiseOk k → SPost false G0 w e w')

end Go.Proofs.Ythelaffjpmcdbaa

/- The program's GridRaise. -/
namespace Go.Proofs.Ythelaffjpmcdbaa
open Go.RowKit
set_option linter.unusedVariables false

def RgPost (g : G) (k : Int) (w : World) (e : Ending) (w' : World) : Prop := (g.RaiseOk k → GPost true (raiseG g k) w e w') ∧ (¬ g.RaiseOk k → GPost false G0 w e w')

end Go.Proofs.Ythelaffjpmcdbaa

/- The program's GridPart. -/
namespace Go.Proofs.Ythelaffjpmcdbaa
open Go.RowKit
set_option linter.unusedVariables false

/-- what GridPart asks, and its answer -/
def G.PartOk (g : G) (t b l r : Int) : Prop := g.Cell t l ∧ g.Cell b r ∧ t ≤ b ∧ l ≤ r
def partG (g : G) (t b l r : Nat) : G := { n := b - t + 1, len := fun _ => r - l + 1, z := fun i j => g.z (t + i) (l + j) }

theorem has_of_cell {g : G} {r c : Int} (h : g.Cell r c) : 0 ≤ r ∧ r < g.n ∧ 0 ≤ c ∧ c < g.len 0 := ⟨h.2.1.1, by have := h.2.1.2; omega, h.2.2.1, by have := h.2.2.2; omega⟩
theorem cell_of_has {g : G} {r c : Int} (hv : g.Valid) (h : 0 ≤ r ∧ r < g.n ∧ 0 ≤ c ∧ c < g.len 0) : g.Cell r c := ⟨hv, ⟨h.1, by omega⟩, h.2.2.1, by omega⟩

end Go.Proofs.Ythelaffjpmcdbaa

/- The model's GridPart. -/
namespace Go.Proofs.Ythelaffjpmcdbaa
open Go.RowKit
set_option linter.unusedVariables false

theorem part_valid {g : G} {t b l r : Nat} (h : g.PartOk t b l r) : (partG g t b l r).Valid := by
  obtain ⟨hc1, hc2, htb, hlr⟩ := h
  have p := has_of_cell hc1
  have q := has_of_cell hc2
  have h7 := hc1.1.1
  have l7 := hc1.1.2.1
  refine ⟨by simp only [partG]; omega, by simp only [partG]; omega, fun i hi => ⟨rfl, fun j hj => ?_⟩⟩
  simp only [partG] at *
  exact valid_at hc1.1 (by omega) (by omega)

end Go.Proofs.Ythelaffjpmcdbaa

/- GridRange of the model and of the program. -/
namespace Go.Proofs.Ythelaffjpmcdbaa
open Go.RowKit
set_option linter.unusedVariables false

/-- the least and the greatest of the first numbers -/
def mn (Z : Nat → Int) : Nat → Int
  | 0 => Z 0
  | k + 1 => min (mn Z k) (Z k)
def mx (Z : Nat → Int) : Nat → Int
  | 0 => Z 0
  | k + 1 => max (mx Z k) (Z k)

theorem mn_succ (Z : Nat → Int) (k : Nat) : mn Z (k + 1) = min (mn Z k) (Z k) := rfl
theorem mx_succ (Z : Nat → Int) (k : Nat) : mx Z (k + 1) = max (mx Z k) (Z k) := rfl
theorem mn_one (Z : Nat → Int) : mn Z 1 = Z 0 := by simp [mn]
theorem mx_one (Z : Nat → Int) : mx Z 1 = Z 0 := by simp [mx]

def TriPost (a b : Int) (c : Bool) (w : World) (e : Ending) (w' : World) : Prop := e = .returned (.tuple #[.int .i64 a, .int .i64 b, .bool c]) ∧ Below w.heap.size w w'

end Go.Proofs.Ythelaffjpmcdbaa
