/- The model's GridText. -/
import Derived.Test.YteoncpifjifjlaaTextB
namespace Go.Proofs.Yteoncpifjifjlaa
open Go.RowKit
set_option linter.unusedVariables false

theorem app_mk (a b : List UInt8) : (⟨a.toArray⟩ : ByteArray) ++ ⟨b.toArray⟩ = ⟨(a ++ b).toArray⟩ := by
  apply ByteArray.ext
  simp

/-- what the model has ahead of cell c of row r, the row's own mark laid -/
def inn (C : Nat) (Z : Nat → Int) (r c : Nat) : List UInt8 := if c = 0 then txt C Z (r * C) ++ (if r = 0 then [] else [47]) else txt C Z (r * C + c)

theorem inn_step (C : Nat) (Z : Nat → Int) (r c : Nat) (hc : c < C) : inn C Z r c ++ (if c = 0 then [] else [32]) ++ dig (Z (r * C + c)) = inn C Z r (c + 1) := by
  have hd := div_at r c C hc
  simp only [inn, Nat.add_eq_zero_iff, Nat.one_ne_zero, and_false, if_false]
  show _ = txt C Z (r * C + c) ++ sep C (r * C + c) ++ dig (Z (r * C + c))
  congr 1
  by_cases h0 : c = 0
  · subst h0
    simp only [if_true, List.append_nil, Nat.add_zero, sep]
    congr 1
    by_cases hr : r = 0
    · subst hr; simp
    · have : r * C ≠ 0 := Nat.mul_ne_zero hr (by omega)
      simp [hr, this]
  · have h1 : r * C + c ≠ 0 := by omega
    simp only [h0, if_false, sep, h1, hd.2]

theorem inn_len (C : Nat) (Z : Nat → Int) (r c : Nat) : (inn C Z r c).length ≤ 3 * (r * C + c) + 1 := by
  unfold inn
  by_cases h0 : c = 0
  · have := txt_len C Z (r * C)
    subst h0
    simp only [if_true, List.length_append]
    have h1 : (if r = 0 then ([] : List UInt8) else [47]).length ≤ 1 := by split <;> simp
    omega
  · have := txt_len C Z (r * C + c)
    simp only [h0, if_false]
    omega

theorem inn_end (C : Nat) (Z : Nat → Int) (r : Nat) (hC : 0 < C) : inn C Z r C = txt C Z ((r + 1) * C) := by
  have : C ≠ 0 := by omega
  simp only [inn, this, if_false, Nat.succ_mul]

end Go.Proofs.Yteoncpifjifjlaa
