/- Draws of profiles for the laws. -/
import Derived.Test.YtmfdflkpbejpoaaDrawP
namespace Go.Proofs.Ytmfdflkpbejpoaa
open Go.RowKit
set_option linter.unusedVariables false

def AtPost (B q n : Nat) (w : World) (e : Ending) (w' : World) : Prop :=
  ∃ k : Int, e = .returned (.int .i64 k) ∧ (-1 ≤ k ∧ k ≤ n) ∧ (∃ q', q' ≤ q + 2 ∧ Rdr w' B q') ∧ Chg B (B + 1) w w'

set_option maxHeartbeats 4000000 in
set_option maxRecDepth 100000 in
theorem at_two (B q n : Nat) (w : World) (hr : Rdr w B q) (hB : B < w.heap.size) (hq : q ≤ 3000) (hn : n ≤ 20) (t : Nat) (ht : t < 2) (w7 : World) (hc7 : Chg B (B + 1) (w.alloc (.cells #[.int .i64 (-1), .int .i64 n] 3)) w7) :
    ∃ Y : Int, w7.cell? ⟨w.heap.size, t, none⟩ = some (.int .i64 Y) ∧ (-1 ≤ Y ∧ Y ≤ n) := by
  have hbb := (hc7.block w.heap.size (by simp) (by omega)).trans (heap_alloc_new w (.cells #[.int .i64 (-1), .int .i64 n] 3))
  rcases (by omega : t = 0 ∨ t = 1) with rfl | rfl
  · exact ⟨-1, by simp [World.cell?, hbb], by omega⟩
  · exact ⟨n, by simp [World.cell?, hbb], by omega⟩

/-- what a drawn profile leaves -/
def DpPost (w : World) (e : Ending) (w' : World) : Prop :=
  ∃ v n Z, e = .returned v ∧ (∃ a l c, v = .slice a l c) ∧ RdI 0 w'.heap.size w' v n Z ∧ n ≤ 9 ∧ (∀ i, i < n → -1 ≤ Z i ∧ Z i ≤ 100) ∧ Below w.heap.size w w'
def DqPost (w : World) (e : Ending) (w' : World) : Prop :=
  ∃ v n Z k, e = .returned (.tuple #[v, .int .i64 k]) ∧ (∃ a l c, v = .slice a l c) ∧ RdI 0 w'.heap.size w' v n Z ∧ n ≤ 9 ∧ (∀ i, i < n → -1 ≤ Z i ∧ Z i ≤ 100) ∧ (-100 ≤ k ∧ k ≤ 100) ∧ Below w.heap.size w w'
def DrrPost (w : World) (e : Ending) (w' : World) : Prop :=
  ∃ v n Z i k, e = .returned (.tuple #[v, .int .i64 i, .int .i64 k]) ∧ (∃ a l c, v = .slice a l c) ∧ RdI 0 w'.heap.size w' v n Z ∧ n ≤ 9 ∧ (∀ i, i < n → -1 ≤ Z i ∧ Z i ≤ 100) ∧ (-100 ≤ i ∧ i ≤ 100) ∧ (-100 ≤ k ∧ k ≤ 100) ∧ Below w.heap.size w w'

end Go.Proofs.Ytmfdflkpbejpoaa
