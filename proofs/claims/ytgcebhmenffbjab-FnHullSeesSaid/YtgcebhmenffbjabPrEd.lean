/- The eye, cleanly. -/
import Derived.Test.YtgcebhmenffbjabPrEc
namespace Go.Proofs.Ytgcebhmenffbjab
open Go.RowKit
set_option linter.unusedVariables false

theorem set_size (w : World) (p : Addr) (u : Value) : (w.setCell p u).heap.size = w.heap.size := by simp [World.setCell]
theorem nums_set (w : World) (p : Addr) (u : Value) : ((w.setCell p u).alloc (.cells #[] 3)).ownsRow w.heap.size 3 1 (.slice (some ⟨w.heap.size, 0, none⟩) 0 0) 0 [] := by
  have h := nums_lit (w.setCell p u)
  rw [set_size] at h
  exact h
theorem eye_search (z : Nat → Int) (x y : Nat) : ∀ N : Nat, (∃ m : Nat, m < N ∧ Sees z x y m ∧ ∀ e : Int, 0 ≤ e → e < m → ¬ Sees z x y e) ∨ (∀ e : Int, 0 ≤ e → e < N → ¬ Sees z x y e) := by
  intro N
  induction N with
  | zero => exact Or.inr (fun e h1 h2 => by omega)
  | succ N ih =>
    rcases ih with ⟨m, h1, h2, h3⟩ | h
    · exact Or.inl ⟨m, by omega, h2, h3⟩
    · by_cases hs : Sees z x y N
      · exact Or.inl ⟨N, by omega, hs, fun e h1 h2 => h e h1 h2⟩
      · refine Or.inr (fun e h1 h2 => ?_)
        by_cases e2 : e = N
        · subst e2; exact hs
        · exact h e h1 (by omega)
theorem eye_is (z : Nat → Int) (x y : Nat) : ∃ m, IsEye z x y m := by
  rcases eye_search z x y 51 with ⟨m, h1, h2, h3⟩ | h
  · exact ⟨m, Or.inl ⟨by omega, by omega, h2, h3⟩⟩
  · exact ⟨-1, Or.inr ⟨rfl, fun e h1 h2 => h e h1 (by omega)⟩⟩
theorem implEye_b (v : Value) (lo hi n : Nat) (Z : Nat → Int) (i k m : Int) (w : World) (hv : RdI lo hi w v n Z) (hh : hi ≤ w.heap.size) (hi1 : -100 ≤ i ∧ i ≤ 100) (hk1 : -100 ≤ k ∧ k ≤ 100) (hm : eyV n Z i k = m) : Calls Try.prog 28 #[v, .int .i64 i, .int .i64 k] w (IntPost m w) := by
  rw [← hm]
  exact implProfileEye_any v lo hi n Z i k w hv hh ⟨by omega, by omega⟩ ⟨by omega, by omega⟩
theorem specEye_b (v : Value) (lo hi n : Nat) (Z : Nat → Int) (i k m : Int) (w : World) (hv : RdI lo hi w v n Z) (hh : hi ≤ w.heap.size) (hm : eyV n Z i k = m) : Calls Try.prog 29 #[v, .int .i64 i, .int .i64 k] w (IntPost m w) := by
  rw [← hm]
  exact specProfileEye_any v lo hi n Z i k w hv hh
theorem implValid_b (v : Value) (lo hi n : Nat) (Z : Nat → Int) (b : Bool) (w : World) (hv : RdI lo hi w v n Z) (hb : prB n Z = b) : Calls Try.prog 30 #[v] w (SmPost b w) := by
  rw [← hb]
  exact implProfileValid_any v lo hi n Z w hv

end Go.Proofs.Ytgcebhmenffbjab
