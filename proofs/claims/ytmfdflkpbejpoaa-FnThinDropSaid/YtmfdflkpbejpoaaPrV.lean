/- Profiles of the program: the functions that ask who sees whom. -/
import Derived.Test.YtmfdflkpbejpoaaPrL
import Derived.Test.YtmfdflkpbejpoaaPrT
namespace Go.Proofs.Ytmfdflkpbejpoaa
open Go.RowKit
set_option linter.unusedVariables false

def I64 (i : Int) : Prop := -9223372036854775808 ≤ i ∧ i ≤ 9223372036854775807

theorem rd_two (w : World) (i k : Int) (hi : I64 i) (hk : I64 k) : RdI w.heap.size (w.heap.size + 1) (w.alloc (.cells #[.int .i64 i, .int .i64 k] 3)) (.slice (some ⟨w.heap.size, 0, none⟩) 2 2) 2 (fun j => if j = 0 then i else k) := by
  have h := heap_alloc_new w (.cells #[.int .i64 i, .int .i64 k] 3)
  refine ⟨_, 2, w.heap.size, 0, rfl, by omega, by omega, fun j hj => ?_, fun _ => ⟨rfl, Nat.le_refl _, Nat.lt_succ_self _⟩, fun j hj => ?_⟩
  · by_cases e : j = 0
    · simp only [e, if_true]; exact hi
    · simp only [e, if_false]; exact hk
  · rcases (by omega : j = 0 ∨ j = 1) with rfl | rfl
    · simp
    · simp
theorem rd_one (w : World) (i : Int) (hi : I64 i) : RdI w.heap.size (w.heap.size + 1) (w.alloc (.cells #[.int .i64 i] 3)) (.slice (some ⟨w.heap.size, 0, none⟩) 1 1) 1 (fun _ => i) := by
  have h := heap_alloc_new w (.cells #[.int .i64 i] 3)
  refine ⟨_, 1, w.heap.size, 0, rfl, by omega, by omega, fun j hj => hi, fun _ => ⟨rfl, Nat.le_refl _, Nat.lt_succ_self _⟩, fun j hj => ?_⟩
  obtain rfl : j = 0 := by omega
  simp

end Go.Proofs.Ytmfdflkpbejpoaa
