/- The program's GridAt and GridSet. -/
import Derived.Test.YtehgbopgfloejaaM2
namespace Go.Proofs.Ytehgbopgfloejaa
open Go.RowKit
set_option linter.unusedVariables false

set_option maxHeartbeats 1000000 in
set_option maxRecDepth 20000 in
theorem has_yes (R C n gg cap : Nat) (r c : Int) (w : World) (h1 : 0 ≤ r) (h2 : r < R) (h3 : 0 ≤ c) (h4 : c < C) :
    Calls Try.prog 75 #[.agg #[.int .i64 R, .int .i64 C, .slice (some ⟨gg, 0, none⟩) n cap], .int .i64 r, .int .i64 c] w (BlPost true w) := by
  go_enter Try.func75, Try.ntmps75
  go_wp2
  go_ret
  exact ⟨rfl, (Below.refl _ _).alloc (Nat.le_refl _) _⟩

set_option maxHeartbeats 1000000 in
set_option maxRecDepth 20000 in
theorem has_no (R C n gg cap : Nat) (r c : Int) (w : World) (h : ¬ (0 ≤ r ∧ r < R ∧ 0 ≤ c ∧ c < C)) :
    Calls Try.prog 75 #[.agg #[.int .i64 R, .int .i64 C, .slice (some ⟨gg, 0, none⟩) n cap], .int .i64 r, .int .i64 c] w (BlPost false w) := by
  by_cases h1 : 0 ≤ r
  · by_cases h2 : r < R
    · by_cases h3 : 0 ≤ c
      · have h4 : ¬ c < C := fun h4 => h ⟨h1, h2, h3, h4⟩
        have h5 : decide (c < (C : Int)) = false := by simpa using h4
        clear h
        go_enter Try.func75, Try.ntmps75
        go_wp2
        go_ret
        exact ⟨rfl, (Below.refl _ _).alloc (Nat.le_refl _) _⟩
      · have h5 : decide (0 ≤ c) = false := by simpa using h3
        clear h
        go_enter Try.func75, Try.ntmps75
        go_wp2
        go_ret
        exact ⟨rfl, (Below.refl _ _).alloc (Nat.le_refl _) _⟩
    · have h5 : decide (r < (R : Int)) = false := by simpa using h2
      clear h
      go_enter Try.func75, Try.ntmps75
      go_wp2
      go_ret
      exact ⟨rfl, (Below.refl _ _).alloc (Nat.le_refl _) _⟩
  · have h5 : decide (0 ≤ r) = false := by simpa using h1
    clear h
    go_enter Try.func75, Try.ntmps75
    go_wp2
    go_ret
    exact ⟨rfl, (Below.refl _ _).alloc (Nat.le_refl _) _⟩

theorem eqv_upd {g : G} {r c : Nat} {x : Int} (hr : r < g.n) (hc : c < g.len 0) (hv : g.Valid) : G.Eqv (gridOf g.n (g.len 0) (fun i => if i = r * g.len 0 + c then x else g.flat i)) (g.upd r c x) := by
  refine ⟨rfl, fun i hi => ⟨(hv.2.2 i hi).1.symm, fun j hj => ?_⟩⟩
  have hj' : j < g.len 0 := hj
  simp only [gridOf, G.upd]
  have d1 := div_at i j (g.len 0) hj'
  have d2 := div_at r c (g.len 0) hc
  by_cases e : i * g.len 0 + j = r * g.len 0 + c
  · have e1 : i = r := by rw [← d1.1, ← d2.1, e]
    have e2 : j = c := by rw [← d1.2, ← d2.2, e]
    rw [if_pos e, if_pos ⟨e1, e2⟩]
  · have : ¬ (i = r ∧ j = c) := fun ⟨e1, e2⟩ => e (by rw [e1, e2])
    rw [if_neg e, if_neg this, g.flat_at i j hj']

end Go.Proofs.Ytehgbopgfloejaa
