/- Peaks of a region: what is reckoned. -/
import Derived.Test.YtplfphpnpjjinabPkM
import Derived.Test.YtplfphpnpjjinabRegS
namespace Go.Proofs.Ytplfphpnpjjinab
set_option linter.unusedVariables false

def pkAt (R C : Nat) (Z : Nat → Int) (k : Nat) : Bool := if h : k < R * C then pkQ R C Z ⟨k, h⟩ else false
theorem pkAt_eq {R C : Nat} {Z : Nat → Int} (x : Ix (R * C)) : pkAt R C Z x.1 = pkQ R C Z x := by unfold pkAt; rw [dif_pos x.2]
/-- how many of the first k cells are peaks of region s -/
def pcN (R C : Nat) (Z : Nat → Int) (lv s : Int) : Nat → Nat
  | 0 => 0
  | k + 1 => pcN R C Z lv s k + (if numZ R C Z lv k = s ∧ pkAt R C Z k = true then 1 else 0)
theorem pcN_yes {R C : Nat} {Z : Nat → Int} {lv s : Int} {k : Nat} (h : numZ R C Z lv k = s) (e : pkAt R C Z k = true) : pcN R C Z lv s (k + 1) = pcN R C Z lv s k + 1 := by simp [pcN, h, e]
theorem pcN_no {R C : Nat} {Z : Nat → Int} {lv s : Int} {k : Nat} (h : ¬ (numZ R C Z lv k = s ∧ pkAt R C Z k = true)) : pcN R C Z lv s (k + 1) = pcN R C Z lv s k := by simp only [pcN]; rw [if_neg h]; rfl
theorem pcN_le (R C : Nat) (Z : Nat → Int) (lv s : Int) : ∀ k, pcN R C Z lv s k ≤ k
  | 0 => Nat.le_refl _
  | k + 1 => by have := pcN_le R C Z lv s k; unfold pcN; split <;> omega

/-- when a grid has the region, and how many peaks it has -/
def G.IlOk (g : G) (lv s : Int) : Prop := g.LvOk lv ∧ 0 ≤ s ∧ s < rgN g.n (g.len 0) g.flat lv (g.n * g.len 0)
noncomputable def G.ilV (g : G) (lv s : Int) : Int := open Classical in if g.IlOk lv s then (pcN g.n (g.len 0) g.flat lv s (g.n * g.len 0) : Int) else -1
theorem G.ilV_yes {g : G} {lv s : Int} (h : g.IlOk lv s) : g.ilV lv s = pcN g.n (g.len 0) g.flat lv s (g.n * g.len 0) := by unfold G.ilV; rw [if_pos h]
theorem G.ilV_no {g : G} {lv s : Int} (h : ¬ g.IlOk lv s) : g.ilV lv s = -1 := by unfold G.ilV; rw [if_neg h]

end Go.Proofs.Ytplfphpnpjjinab
