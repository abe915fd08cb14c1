/- The draw of FnGridRaise: a grid and a number. -/
import Derived.Test.YtcfeckpbjdipeaaDrawD
import Derived.Test.YtcfeckpbjdipeaaM2
namespace Go.Proofs.Ytcfeckpbjdipeaa
open Go.RowKit
set_option linter.unusedVariables false

def Lr (i : Nat) : Int := [9223372036854775807, -9223372036854775808, 99].getD i 0
theorem lr_cell {w : World} {b y : Nat} {t : TypeId} (h : w.heap[b]? = some (.cells #[.int .i64 9223372036854775807, .int .i64 (-9223372036854775808), .int .i64 99] t (0, 0))) (hy : y < 3) : w.cell? ⟨b, y, none⟩ = some (.int .i64 (Lr y)) := by
  have : y = 0 ∨ y = 1 ∨ y = 2 := by omega
  rcases this with rfl | rfl | rfl <;> simp [World.cell?, h, Lr]
theorem lr_range (y : Nat) (hy : y < 3) : -9223372036854775808 ≤ Lr y ∧ Lr y ≤ 9223372036854775807 := by
  have : y = 0 ∨ y = 1 ∨ y = 2 := by omega
  rcases this with rfl | rfl | rfl <;> simp [Lr]

/-- what the draw of a grid and a number leaves -/
def DkPost (w : World) (e : Ending) (w' : World) : Prop :=
  ∃ v g k, e = .returned (.tuple #[v, .int .i64 k]) ∧ (∃ a l c, v = .slice a l c) ∧ RdM 0 w'.heap.size w' v g ∧ (1 ≤ g.n ∧ g.n ≤ 5) ∧ (∀ r, r < g.n → g.len r ≤ 9) ∧ (-9223372036854775808 ≤ k ∧ k ≤ 9223372036854775807) ∧ Below w.heap.size w w'

/-- the grid is read behind a change of the reader's block alone -/
theorem RdM.over {hi B : Nat} {w w' : World} {v : Value} {g : G} (h : RdM 0 hi w v g) (hB : Below hi w w') : RdM 0 hi w' v g := h.same (SameIn.below hB (Nat.le_refl _))

end Go.Proofs.Ytcfeckpbjdipeaa

/- What the promises' laws share: shapes of grids that are read; grids turned and mirrored several times. -/
namespace Go.Proofs.Ytcfeckpbjdipeaa
open Go.RowKit
set_option linter.unusedVariables false

theorem RdM.shape {lo hi : Nat} {w : World} {v : Value} {g : G} (h : RdM lo hi w v g) (h0 : 0 < g.n) : ∃ b off cap, v = .slice (some ⟨b, off, none⟩) g.n cap := by
  obtain ⟨ao, cap, b, off, Ao, Cp, rfl, _, _, h4, _⟩ := h
  exact ⟨b, off, cap, by rw [(h4 h0).1]⟩

theorem RdM.shapeK {lo hi : Nat} {w : World} {v : Value} {g : G} (h : RdM lo hi w v g) (k : Nat) (hk : g.n = k) (h0 : 0 < k) : ∃ b off cap, v = .slice (some ⟨b, off, none⟩) k cap := by
  subst hk; exact h.shape h0

/-- the first row of a grid that is read -/
theorem RdM.head {lo hi : Nat} {w : World} {b off n cap : Nat} {g : G} (h : RdM lo hi w (.slice (some ⟨b, off, none⟩) n cap) g) (h0 : 0 < g.n) (k : Nat) (hk : g.len 0 = k) : ∃ ao c0, w.cell? ⟨b, off, none⟩ = some (.slice ao k c0) := by
  subst hk
  obtain ⟨ao, cap', b', off', Ao, Cp, e, _, _, h4, h5, _⟩ := h
  simp only [Value.slice.injEq] at e
  obtain ⟨e1, _, _⟩ := e
  rw [(h4 h0).1] at e1
  simp only [Option.some.injEq, Addr.mk.injEq] at e1
  obtain ⟨rfl, rfl, _⟩ := e1
  exact ⟨_, _, by simpa using h5 0 h0⟩

theorem turn4 {g : G} (h : g.Valid) : G.Eqv (turnG (turnG (turnG (turnG g)))) g := by
  refine ⟨rfl, fun r hr => ⟨?_, fun c hc => ?_⟩⟩
  · simp only [turnG] at hr ⊢; rw [(h.2.2 r hr).1]
  · simp only [turnG] at hr hc ⊢
    have e1 : g.n - 1 - (g.n - 1 - r) = r := by omega
    have e2 : g.len 0 - 1 - (g.len 0 - 1 - c) = c := by omega
    rw [e1, e2]

theorem turn_mirror {g : G} (h : g.Valid) : G.Eqv (turnG (turnG (mirrorG g))) (mirrorG (turnG (turnG g))) := by
  refine ⟨rfl, fun r hr => ⟨rfl, fun c hc => ?_⟩⟩
  simp only [turnG, mirrorG] at hr hc ⊢

theorem mirror2 {g : G} (h : g.Valid) : G.Eqv (mirrorG (mirrorG g)) g := by
  refine ⟨rfl, fun r hr => ⟨?_, fun c hc => ?_⟩⟩
  · simp only [mirrorG] at hr ⊢; rw [(h.2.2 r hr).1]
  · simp only [mirrorG] at hr hc ⊢
    congr 1 <;> omega

theorem mirror_turn {g : G} (h : g.Valid) : G.Eqv (mirrorG (turnG g)) (turnG (turnG (turnG (mirrorG g)))) := by
  refine ⟨rfl, fun r hr => ⟨rfl, fun c hc => ?_⟩⟩
  simp only [turnG, mirrorG] at hr hc ⊢
  congr 1 <;> omega

theorem G.Eqv.symm {a b : G} (h : G.Eqv a b) : G.Eqv b a := ⟨h.1.symm, fun r hr => by
  have h2 := h.2 r (by have := h.1; omega)
  exact ⟨h2.1.symm, fun c hc => (h2.2 c (by have := h2.1; omega)).symm⟩⟩

end Go.Proofs.Ytcfeckpbjdipeaa
