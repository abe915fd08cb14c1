/- Who sees whom, cleanly; a point raised. -/
import Derived.Test.YtgcebhmenffbjabPrEb
namespace Go.Proofs.Ytgcebhmenffbjab
open Go.RowKit
set_option linter.unusedVariables false

theorem implSees_b (v : Value) (lo hi n : Nat) (Z : Nat → Int) (i k : Int) (b : Bool) (w : World) (hv : RdI lo hi w v n Z) (hh : hi ≤ w.heap.size) (hi1 : -100 ≤ i ∧ i ≤ 100) (hk1 : -100 ≤ k ∧ k ≤ 100) (hb : ssB n Z i k = b) : Calls Try.prog 16 #[v, .int .i64 i, .int .i64 k] w (BlPost b w) := by
  rw [← hb]
  exact implProfileSees_any v lo hi n Z i k w hv hh ⟨by omega, by omega⟩ ⟨by omega, by omega⟩
theorem specSees_b (v : Value) (lo hi n : Nat) (Z : Nat → Int) (i k : Int) (b : Bool) (w : World) (hv : RdI lo hi w v n Z) (hh : hi ≤ w.heap.size) (hb : ssB n Z i k = b) : Calls Try.prog 17 #[v, .int .i64 i, .int .i64 k] w (BlPost b w) := by
  rw [← hb]
  exact specProfileSees_any v lo hi n Z i k w hv hh
theorem ss_at {n : Nat} {z : Nat → Int} {i k : Nat} (h : PrOk n z) (hi : i < n) (hk : k < n) (hs : Sees z i k 0) : ssB n z i k = true := by rw [ssB_at i k h hi hk, seB_yes hs]
theorem ss_rev {n : Nat} {z : Nat → Int} {i k : Nat} (h : PrOk n z) (hi : i < n) (hk : k < n) (hs : Sees z i k 0) : ssB n (revZ (n - 1) z) ((n : Int) - 1 - i) ((n : Int) - 1 - k) = true := by
  have e1 : ((n : Int) - 1 - i) = ((n - 1 - i : Nat) : Int) := by omega
  have e2 : ((n : Int) - 1 - k) = ((n - 1 - k : Nat) : Int) := by omega
  rw [e1, e2]
  exact ss_at (rev_ok h) (by omega) (by omega) ((sees_rev z (n - 1) i k (by omega) (by omega)).2 hs)
theorem set_ok {n : Nat} {z : Nat → Int} (h : PrOk n z) {j : Nat} {x : Int} (hx : 0 ≤ x ∧ x ≤ 99) : PrOk n (setZ z j x) := ⟨h.1, fun i hi => by
  by_cases e : i = j
  · subst e; rw [setZ_at]; exact hx
  · rw [setZ_far _ _ _ _ e]; exact h.2 i hi⟩
theorem ss_low {n : Nat} {z : Nat → Int} {i k j : Nat} {x : Int} (h : PrOk n z) (hi : i < n) (hk : k < n) (hs : Sees z i k 0) (h1 : j ≠ i) (h2 : j ≠ k) (hx0 : 0 ≤ x) (hx : x ≤ z j) (hj : j < n) : ssB n (setZ z j x) i k = true :=
  ss_at (set_ok h ⟨hx0, by have := h.2 j hj; omega⟩) hi hk (sees_low hs hx h1 h2)

theorem free_ext {z z' : Nat → Int} {a b : Nat} {ha hb : Int} (h : ∀ j, a < j → j < b → z j = z' j) : Free z a ha b hb ↔ Free z' a ha b hb := by
  unfold Free Und
  constructor
  · intro g j h1 h2; rw [← h j h1 h2]; exact g j h1 h2
  · intro g j h1 h2; rw [h j h1 h2]; exact g j h1 h2
theorem sees_eye {z : Nat → Int} {i k : Nat} (m : Int) (hik : i ≠ k) : Sees (setZ z i (z i + m)) i k 0 ↔ Sees z i k m := by
  unfold Sees
  rw [setZ_at, setZ_far _ _ _ _ (Ne.symm hik), Int.add_zero]
  have h1 : i ≤ k → (Free (setZ z i (z i + m)) i (z i + m) k (z k) ↔ Free z i (z i + m) k (z k)) := fun _ => free_ext (fun j h1 h2 => setZ_far _ _ _ _ (by omega))
  have h2 : k < i → (Free (setZ z i (z i + m)) k (z k) i (z i + m) ↔ Free z k (z k) i (z i + m)) := fun _ => free_ext (fun j h1 h2 => setZ_far _ _ _ _ (by omega))
  constructor
  · rintro ⟨a, b⟩; exact ⟨fun g => (h1 g).1 (a g), fun g => (h2 g).1 (b g)⟩
  · rintro ⟨a, b⟩; exact ⟨fun g => (h1 g).2 (a g), fun g => (h2 g).2 (b g)⟩
theorem ssB_eye_no {n : Nat} {z : Nat → Int} {i k : Nat} {m : Int} (hik : i ≠ k) (h : ¬ Sees z i k m) : ssB n (setZ z i (z i + m)) i k = false :=
  ssB_no (fun g => h ((sees_eye m hik).1 g.2))
theorem ssB_eye_yes {n : Nat} {z : Nat → Int} {i k : Nat} {m : Int} (hv : PrOk n (setZ z i (z i + m))) (hi : i < n) (hk : k < n) (hik : i ≠ k) (h : Sees z i k m) : ssB n (setZ z i (z i + m)) i k = true :=
  ss_at hv hi hk ((sees_eye m hik).2 h)

end Go.Proofs.Ytgcebhmenffbjab
