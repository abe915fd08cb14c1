/- slices.Concat of two lists of numbers. -/
import Derived.Test.YtjllmidagcniaaaImplJ
import Derived.Lib.AppendZeros
namespace Go.Proofs.Ytjllmidagcniaaa
open Go.RowKit
set_option linter.unusedVariables false

/-- the numbers of both lists -/
def catZ (l1 : Nat) (Z1 Z2 : Nat → Int) (i : Nat) : Int := if i < l1 then Z1 i else Z2 (i - l1)
def ints (l : Nat) (Z : Nat → Int) : List Value := (List.range l).map fun c => Value.int .i64 (Z c)
def catN (l1 l2 : Nat) : Nat → Nat
  | 0 => 0
  | 1 => l1
  | _ => l1 + l2
def catL (l1 l2 : Nat) (Z1 Z2 : Nat → Int) : Nat → List Value
  | 0 => []
  | 1 => ints l1 Z1
  | _ => ints l1 Z1 ++ ints l2 Z2

theorem catL_at {l1 l2 : Nat} {Z1 Z2 : Nat → Int} : ∀ i, i < l1 + l2 → (catL l1 l2 Z1 Z2 2)[i]? = some (.int .i64 (catZ l1 Z1 Z2 i)) := by
  intro i hi
  simp only [catL, catZ, ints]
  by_cases h1 : i < l1
  · rw [List.getElem?_append_left (by simpa using h1), if_pos h1]; simp [h1]
  · rw [List.getElem?_append_right (by simpa using Nat.le_of_not_lt h1), if_neg h1]
    have h3 : i - l1 < l2 := by omega
    simp [h3]

end Go.Proofs.Ytjllmidagcniaaa
