/- GridRange of the model and of the program. -/
import Derived.Test.YtjllmidagcniaaaSpecG
import Derived.Lib.MinMax
namespace Go.Proofs.Ytjllmidagcniaaa
open Go.RowKit
set_option linter.unusedVariables false

/-- the least and the greatest of the first numbers -/
def mn (Z : Nat → Int) : Nat → Int
  | 0 => Z 0
  | k + 1 => min (mn Z k) (Z k)
def mx (Z : Nat → Int) : Nat → Int
  | 0 => Z 0
  | k + 1 => max (mx Z k) (Z k)

theorem mn_succ (Z : Nat → Int) (k : Nat) : mn Z (k + 1) = min (mn Z k) (Z k) := rfl
theorem mx_succ (Z : Nat → Int) (k : Nat) : mx Z (k + 1) = max (mx Z k) (Z k) := rfl
theorem mn_one (Z : Nat → Int) : mn Z 1 = Z 0 := by simp [mn]
theorem mx_one (Z : Nat → Int) : mx Z 1 = Z 0 := by simp [mx]

def TriPost (a b : Int) (c : Bool) (w : World) (e : Ending) (w' : World) : Prop := e = .returned (.tuple #[.int .i64 a, .int .i64 b, .bool c]) ∧ Below w.heap.size w w'

end Go.Proofs.Ytjllmidagcniaaa
