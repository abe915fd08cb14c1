/- The model's functions that make a grid of a grid. -/
import Derived.Test.YtdjlobppnhokoaaGr
import Derived.Test.YtdjlobppnhokoaaImplF
namespace Go.Proofs.Ytdjlobppnhokoaa
open Go.RowKit
set_option linter.unusedVariables false

/-- what a function of the model that answers a grid and a bool leaves -/
def SPost (b : Bool) (g : G) (w : World) (e : Ending) (w' : World) : Prop :=
  ∃ v, e = .returned (.tuple #[v, .bool b]) ∧ (∃ a l c, v = .slice a l c) ∧ RdM w.heap.size w'.heap.size w' v g ∧ Below w.heap.size w w'

theorem RdM.empty (lo hi : Nat) (w : World) (a : Option Addr) (c : Nat) (hc : c ≤ 9223372036854775807) : RdM lo hi w (.slice a 0 c) G0 :=
  ⟨a, c, 0, 0, fun _ => none, fun _ => 0, rfl, by simp [G0], hc, fun h => by simp [G0] at h, fun r hr => by simp [G0] at hr, fun r hr => by simp [G0] at hr⟩

theorem G.off_marked (g : G) (k : Int) : ∀ r, (g.mark k).off r = g.off r := by
  intro r
  induction r with
  | zero => rfl
  | succ r ih => simp only [G.off, ih]; rfl

theorem Gr.start (w : World) (RV : Nat → Value) (g : G) : Gr w (w.alloc (.cells #[] 27)) (.slice (some ⟨w.heap.size, 0, none⟩) 0 0) 0 (w.heap.size + 1) RV g := by
  refine ⟨(Below.refl _ _).alloc (Nat.le_refl _) _, by omega, by simp, ?_, fun b hb => by simp [Value.ownBlock] at hb; omega, fun r hr => by omega, fun r s hr => by omega⟩
  exact World.ownsRow_lit w #[] 0 (Nat.le_refl _) (Nat.zero_le _) (by simp)

theorem Rw.start (wr : World) (Z : Nat → Int) : Rw wr.heap.size (wr.alloc (.cells #[] 3)) (.slice (some ⟨wr.heap.size, 0, none⟩) 0 0) 0 Z :=
  ⟨[], World.ownsRow_lit wr #[] 0 (Nat.le_refl _) (Nat.zero_le _) (by simp), fun i hi => by omega⟩

theorem G.range_of {g : G} (h : g.Valid) : ∀ r, r < g.n → ∀ c, c < g.len r → -9223372036854775808 ≤ g.z r c ∧ g.z r c ≤ 9223372036854775807 := fun r hr c hc => by
  have := (h.2.2 r hr).2 c hc
  omega

theorem turn_valid {g : G} (h : g.Valid) : (turnG g).Valid :=
  ⟨h.2.1, h.1, fun r hr => ⟨rfl, fun c hc => valid_at h (by simp only [turnG] at hc; omega) hr⟩⟩
theorem mirror_valid {g : G} (h : g.Valid) : (mirrorG g).Valid :=
  ⟨h.1, h.2.1, fun r hr => ⟨rfl, fun c hc => valid_at h hr (by simp only [mirrorG] at hc; omega)⟩⟩
theorem invert_valid {g : G} (h : g.Valid) : (invertG g).Valid :=
  ⟨h.1, h.2.1, fun r hr => ⟨rfl, fun c hc => by have := valid_at h hr hc; simp only [invertG]; omega⟩⟩

end Go.Proofs.Ytdjlobppnhokoaa
