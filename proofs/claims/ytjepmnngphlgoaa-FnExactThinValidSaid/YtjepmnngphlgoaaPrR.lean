/- Profiles copied and turned over in place, in the program. -/
import Derived.Test.YtjepmnngphlgoaaPrI
import Derived.Test.YtjepmnngphlgoaaPrQ
import Derived.Deep.AppendLies
import Derived.Deep.RegionLaw
import Derived.BigRegion
import Derived.BigQuiet
namespace Go.Proofs.Ytjepmnngphlgoaa
open Go.RowKit
set_option linter.unusedVariables false

theorem OwI.congr {lo hi : Nat} {w : World} {v : Value} {n : Nat} {Z Z' : Nat → Int} (h : OwI lo hi w v n Z) (e : ∀ i, i < n → Z i = Z' i) : OwI lo hi w v n Z' := by
  rcases h with ⟨rfl, rfl⟩ | ⟨b, N, cap, F, rfl, h1, h2, h3, h4, h5, h6, h7, h8⟩
  · exact Or.inl ⟨rfl, rfl⟩
  · exact Or.inr ⟨b, N, cap, F, rfl, h1, h2, h3, h4, h5, h6, fun i hi => by rw [← e i hi]; exact h7 i hi, fun i hi => by rw [← e i hi]; exact h8 i hi⟩

theorem nums_all {B n : Nat} {w : World} {v : Value} {Z : Nat → Int} (h : w.ownsRow B 3 1 v (0 + n) ([] ++ nsV (fnL Z n))) : Nums B w v (fnL Z n) := by
  unfold Nums
  rw [fnL_len]
  rw [Nat.zero_add, List.nil_append] at h
  exact h

/-- the first k from both ends are exchanged -/
def revF (F : Nat → Value) (Z : Nat → Int) (n k : Nat) (x : Nat) : Value := if x < n then (if x < k ∨ n ≤ x + k then .int .i64 (Z (n - 1 - x)) else .int .i64 (Z x)) else F x

def RevPost (b N n : Nat) (F : Nat → Value) (Z : Nat → Int) (w : World) (e : Ending) (w' : World) : Prop :=
  (∃ v, e = .returned v) ∧ w'.rowIs b 3 N (fun x => if x < n then .int .i64 (Z (n - 1 - x)) else F x) ∧ Chg b (b + 1) w w' ∧ w'.heap.size = w.heap.size

end Go.Proofs.Ytjepmnngphlgoaa
