/- Whether the sight between two eyes is free, in the program. -/
import Derived.Test.YtmfdflkpbejpoaaPrI
namespace Go.Proofs.Ytmfdflkpbejpoaa
open Go.RowKit
set_option linter.unusedVariables false

theorem three_boxes (w : World) (o1 o2 o3 : Obj) : let W := ((w.alloc o1).alloc o2).alloc o3
    W.heap[w.heap.size]? = some o1 ∧ W.heap[w.heap.size + 1]? = some o2 ∧ W.heap[w.heap.size + 2]? = some o3 := by
  intro W
  have s1 : (w.alloc o1).heap.size = w.heap.size + 1 := by simp
  have s2 : ((w.alloc o1).alloc o2).heap.size = w.heap.size + 2 := by simp
  refine ⟨?_, ?_, ?_⟩
  · exact (Below.heap_alloc _ o3 _ (by omega)).trans ((Below.heap_alloc _ o2 _ (by omega)).trans (heap_alloc_new w o1))
  · refine (Below.heap_alloc _ o3 _ (by omega)).trans ?_
    have := heap_alloc_new (w.alloc o1) o2
    rwa [s1] at this
  · have := heap_alloc_new ((w.alloc o1).alloc o2) o3
    rwa [s2] at this

def FreeS (z : Nat → Int) (a : Nat) (ha : Int) (b : Nat) (hb : Int) : Prop := (a ≤ b → Free z a ha b hb) ∧ (b < a → Free z b hb a ha)
noncomputable def fsB (z : Nat → Int) (a : Nat) (ha : Int) (b : Nat) (hb : Int) : Bool := @decide (FreeS z a ha b hb) (Classical.propDecidable _)
theorem fsB_yes {z : Nat → Int} {a b : Nat} {ha hb : Int} (h : FreeS z a ha b hb) : fsB z a ha b hb = true := by simp [fsB, h]
theorem fsB_no {z : Nat → Int} {a b : Nat} {ha hb : Int} (h : ¬ FreeS z a ha b hb) : fsB z a ha b hb = false := by simp [fsB, h]
theorem fsB_se (z : Nat → Int) (i k : Nat) (e : Int) : fsB z i (z i + e) k (z k) = seB z i k e := rfl

end Go.Proofs.Ytmfdflkpbejpoaa
