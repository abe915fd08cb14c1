/- The program's GridBeside. -/
import Derived.Test.YteoncpifjifjlaaDoorSpecH
namespace Go.Proofs.YteoncpifjifjlaaDoor
open Go.RowKit
set_option linter.unusedVariables false

/-- the flat numbers of two grids beside each other -/
def bsZ (C1 C2 : Nat) (Z1 Z2 : Nat → Int) (i : Nat) : Int :=
  if i % (C1 + C2) < C1 then Z1 (i / (C1 + C2) * C1 + i % (C1 + C2)) else Z2 (i / (C1 + C2) * C2 + (i % (C1 + C2) - C1))

theorem bsZ_at {C1 C2 : Nat} {Z1 Z2 : Nat → Int} {r c : Nat} (hc : c < C1 + C2) : bsZ C1 C2 Z1 Z2 (r * (C1 + C2) + c) = if c < C1 then Z1 (r * C1 + c) else Z2 (r * C2 + (c - C1)) := by
  have hd := div_at r c (C1 + C2) hc
  simp only [bsZ, hd.1, hd.2]

def BgPost (a b : G) (w : World) (e : Ending) (w' : World) : Prop := (BesideOk a b → GPost true (besideG a b) w e w') ∧ (¬ BesideOk a b → GPost false G0 w e w')

end Go.Proofs.YteoncpifjifjlaaDoor
