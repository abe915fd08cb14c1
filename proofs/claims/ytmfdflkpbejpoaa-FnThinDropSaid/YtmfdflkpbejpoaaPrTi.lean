/- Profiles tilted, in the model and in the program. -/
import Derived.Test.YtmfdflkpbejpoaaPrB
namespace Go.Proofs.Ytmfdflkpbejpoaa
open Go.RowKit
set_option linter.unusedVariables false

def TlOk (n : Nat) (z : Nat → Int) (t : Int) : Prop := PrOk n z ∧ (-10 ≤ t ∧ t ≤ 10) ∧ PrOk n (tilZ z t)
noncomputable def tlB (n : Nat) (z : Nat → Int) (t : Int) : Bool := @decide (TlOk n z t) (Classical.propDecidable _)
theorem tlB_yes {n : Nat} {z : Nat → Int} {t : Int} (h : TlOk n z t) : tlB n z t = true := by simp [tlB, h]
theorem tlB_no {n : Nat} {z : Nat → Int} {t : Int} (h : ¬ TlOk n z t) : tlB n z t = false := by simp [tlB, h]
open Classical in
noncomputable def tlN (n : Nat) (z : Nat → Int) (t : Int) : Nat := if TlOk n z t then n else 0
theorem tlN_yes {n : Nat} {z : Nat → Int} {t : Int} (h : TlOk n z t) : tlN n z t = n := by unfold tlN; rw [if_pos h]
theorem tlN_no {n : Nat} {z : Nat → Int} {t : Int} (h : ¬ TlOk n z t) : tlN n z t = 0 := by unfold tlN; rw [if_neg h]
theorem tlN_le (n : Nat) (z : Nat → Int) (t : Int) : tlN n z t ≤ n := by
  by_cases h : TlOk n z t
  · rw [tlN_yes h]; exact Nat.le_refl _
  · rw [tlN_no h]; omega
theorem til_rng {n : Nat} {z : Nat → Int} {t : Int} (h : PrOk n z) (h1 : -10 ≤ t) (h2 : t ≤ 10) (i : Nat) (hi : i < n) : (-40000 ≤ (i : Int) * t ∧ (i : Int) * t ≤ 40000) ∧ -40000 ≤ tilZ z t i ∧ tilZ z t i ≤ 40099 := by
  have hm := mul_rng (i : Int) t (by omega) (by have := h.1.2; omega) (by omega) (by omega)
  have hz := h.2 i hi
  unfold tilZ
  omega

end Go.Proofs.Ytmfdflkpbejpoaa
