/- Profiles turned over and tilted, in the model and in the program. -/
import Derived.Test.YtjepmnngphlgoaaPrR
import Derived.Test.YtjepmnngphlgoaaPrV
namespace Go.Proofs.Ytjepmnngphlgoaa
open Go.RowKit
set_option linter.unusedVariables false

open Classical in
noncomputable def bkN (n : Nat) (z : Nat → Int) : Nat := if PrOk n z then n else 0
theorem bkN_yes {n : Nat} {z : Nat → Int} (h : PrOk n z) : bkN n z = n := by unfold bkN; rw [if_pos h]
theorem bkN_no {n : Nat} {z : Nat → Int} (h : ¬ PrOk n z) : bkN n z = 0 := by unfold bkN; rw [if_neg h]
theorem bkN_le (n : Nat) (z : Nat → Int) : bkN n z ≤ n := by
  by_cases h : PrOk n z
  · rw [bkN_yes h]; exact Nat.le_refl _
  · rw [bkN_no h]; omega
theorem rev_ok {n : Nat} {z : Nat → Int} (h : PrOk n z) : PrOk n (revZ (n - 1) z) := ⟨h.1, fun i hi => h.2 _ (by omega)⟩

theorem LsPost.mk' {b b' : Bool} {n : Nat} {Z : Nat → Int} {w w' : World} {v : Value} {l : List Int} (eb : b = b') (hl : l.length = n) (hz : ∀ i, i < n → nsZ l i = Z i) (hok : NsOk l) (h : Nums w.heap.size w' v l) (hb : Below w.heap.size w w') : LsPost b n Z w (.returned (.tuple #[v, .bool b'])) w' := by
  obtain ⟨a, c, rfl⟩ := h.shape
  have hr := h.rdI hok
  rw [hl] at hr
  exact ⟨_, by rw [eb, hl], ⟨_, _, _, rfl⟩, hr.congr hz, hb⟩

end Go.Proofs.Ytjepmnngphlgoaa
