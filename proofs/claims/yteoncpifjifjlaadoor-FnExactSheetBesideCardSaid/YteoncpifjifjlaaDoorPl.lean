/- Places: which there are; of the model and of the program. -/
import Derived.Test.YteoncpifjifjlaaDoorM1
namespace Go.Proofs.YteoncpifjifjlaaDoor
open Go.RowKit
set_option linter.unusedVariables false

/-- there is such a place -/
def PlOk (x y : Int) : Prop := (0 ≤ x ∧ x ≤ 103) ∧ 0 ≤ y ∧ y ≤ 103
noncomputable def plB (x y : Int) : Bool := @decide (PlOk x y) (Classical.propDecidable _)
theorem plB_yes {x y : Int} (h : PlOk x y) : plB x y = true := by simp [plB, h]
theorem plB_no {x y : Int} (h : ¬ PlOk x y) : plB x y = false := by simp [plB, h]

theorem l7Place_any (x y : Int) (w : World) : Calls Tryd.prog 60 #[.int .i64 x, .int .i64 y] w (SmPost (plB x y) w) := by
  by_cases hx : 0 ≤ x ∧ x ≤ 103
  · obtain ⟨hx0, hx1⟩ := hx
    have hy : (0 ≤ y ∧ y ≤ 103) ∨ y < 0 ∨ 103 < y := by omega
    rcases hy with ⟨h0, h1⟩ | h0 | h0
    · have HE := Lib.hid (plB_yes (x := x) (y := y) ⟨⟨hx0, hx1⟩, h0, h1⟩)
      go_enter Tryd.func60, Tryd.ntmps60
      go_wp2
      go_ret
      exact sm_post HE.out _
    · have HE := Lib.hid (plB_no (x := x) (y := y) (fun h => by have := h.2.1; omega))
      go_enter Tryd.func60, Tryd.ntmps60
      go_wp2
      go_ret
      exact sm_post HE.out _
    · have HE := Lib.hid (plB_no (x := x) (y := y) (fun h => by have := h.2.2; omega))
      have h2 : ¬ y ≤ 103 := by omega
      have h3 : 0 ≤ y := by omega
      go_enter Tryd.func60, Tryd.ntmps60
      go_wp2
      go_ret
      exact sm_post HE.out _
  · have HE := Lib.hid (plB_no (x := x) (y := y) (fun h => hx h.1))
    have hy : x < 0 ∨ 103 < x := by omega
    clear hx
    rcases hy with h0 | h0
    · go_enter Tryd.func60, Tryd.ntmps60
      go_wp2
      go_ret
      exact sm_post HE.out _
    · have h2 : ¬ x ≤ 103 := by omega
      have h3 : 0 ≤ x := by omega
      go_enter Tryd.func60, Tryd.ntmps60
      go_wp2
      go_ret
      exact sm_post HE.out _

theorem cellsPl {w : World} {b : Nat} {x y : Value} {t : TypeId} (h : w.heap[b]? = some (.cells #[x, y] t (0, 0))) :
    w.cell? ⟨b, 0, none⟩ = some x ∧ w.cell? ⟨b, 1, none⟩ = some y ∧ w.frozen? ⟨b, 0, none⟩ = false ∧ w.frozen? ⟨b, 1, none⟩ = false := by
  simp [World.cell?, World.frozen?, h]
theorem Tryd.sizePl : (Tryd.prog.info? 81).map (·.size) = some 2 := by kernel_rfl

set_option maxHeartbeats 1000000 in
theorem placeValid_any (x y : Int) (w : World) : Calls Tryd.prog 82 #[.agg #[.int .i64 x, .int .i64 y]] w (BlPost (plB x y) w) := by
  have hb : Below w.heap.size w (w.alloc (.cells #[.int .i64 x, .int .i64 y] 81)) := (Below.refl _ _).alloc (Nat.le_refl _) _
  have HB := Lib.hid hb
  clear hb
  by_cases hx : 0 ≤ x ∧ x ≤ 103
  · obtain ⟨hx0, hx1⟩ := hx
    have hy : (0 ≤ y ∧ y ≤ 103) ∨ y < 0 ∨ 103 < y := by omega
    rcases hy with ⟨h0, h1⟩ | h0 | h0
    · have HE := Lib.hid (plB_yes (x := x) (y := y) ⟨⟨hx0, hx1⟩, h0, h1⟩)
      go_enter Tryd.func82, Tryd.ntmps82
      go_wp2
      go_ret
      exact bl_post HE.out HB.out
    · have HE := Lib.hid (plB_no (x := x) (y := y) (fun h => by have := h.2.1; omega))
      go_enter Tryd.func82, Tryd.ntmps82
      go_wp2
      go_ret
      exact bl_post HE.out HB.out
    · have HE := Lib.hid (plB_no (x := x) (y := y) (fun h => by have := h.2.2; omega))
      have h2 : ¬ y ≤ 103 := by omega
      have h3 : 0 ≤ y := by omega
      go_enter Tryd.func82, Tryd.ntmps82
      go_wp2
      go_ret
      exact bl_post HE.out HB.out
  · have HE := Lib.hid (plB_no (x := x) (y := y) (fun h => hx h.1))
    have hy : x < 0 ∨ 103 < x := by omega
    clear hx
    rcases hy with h0 | h0
    · go_enter Tryd.func82, Tryd.ntmps82
      go_wp2
      go_ret
      exact bl_post HE.out HB.out
    · have h2 : ¬ x ≤ 103 := by omega
      have h3 : 0 ≤ x := by omega
      go_enter Tryd.func82, Tryd.ntmps82
      go_wp2
      go_ret
      exact bl_post HE.out HB.out

end Go.Proofs.YteoncpifjifjlaaDoor
