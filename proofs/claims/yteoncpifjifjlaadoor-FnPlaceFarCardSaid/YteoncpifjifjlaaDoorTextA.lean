/- The program's text of a relief. -/
import Derived.Test.YteoncpifjifjlaaDoorBld
namespace Go.Proofs.YteoncpifjifjlaaDoor
open Go.RowKit
set_option linter.unusedVariables false

/-- the two digits of a height -/
def dig (h : Int) : List UInt8 := [UInt8.ofNat (48 + (h / 10).toNat), UInt8.ofNat (48 + (h % 10).toNat)]
/-- what stands ahead of height number i -/
def sep (C i : Nat) : List UInt8 := if i = 0 then [] else if i % C = 0 then [47] else [32]
/-- the text of the first i heights -/
def txt (C : Nat) (Z : Nat → Int) : Nat → List UInt8
  | 0 => []
  | i + 1 => txt C Z i ++ sep C i ++ dig (Z i)

theorem byteCells_push (l : List UInt8) (b : UInt8) (z : Int) (h : (b.toNat : Int) = z) : Lib.byteCells l ++ [Value.int .u8 z] = Lib.byteCells (l ++ [b]) := by
  simp [Lib.byteCells, h]

theorem dig_hi (h : Int) (h0 : 0 ≤ h) (h1 : h ≤ 99) : (((UInt8.ofNat (48 + (h / 10).toNat)).toNat : Nat) : Int) = 48 + h / 10 := by
  rw [UInt8.toNat_ofNat']
  omega
theorem dig_lo (h : Int) (h0 : 0 ≤ h) (h1 : h ≤ 99) : (((UInt8.ofNat (48 + (h % 10).toNat)).toNat : Nat) : Int) = 48 + h % 10 := by
  rw [UInt8.toNat_ofNat']
  omega

theorem txt_len (C : Nat) (Z : Nat → Int) : ∀ i, (txt C Z i).length ≤ 3 * i := by
  intro i
  induction i with
  | zero => simp [txt]
  | succ i ih =>
    have : (sep C i).length ≤ 1 := by unfold sep; split <;> (try split) <;> simp
    simp only [txt, List.length_append, dig, List.length_cons, List.length_nil]
    omega

end Go.Proofs.YteoncpifjifjlaaDoor
