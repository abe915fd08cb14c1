/- PlaceFar of the model and of the program. -/
import Derived.Test.YtbjhaggncpkdhaaGpJ
namespace Go.Proofs.Ytbjhaggncpkdhaa
open Go.RowKit
set_option linter.unusedVariables false

/-- there is such a place -/
def PlOk (x y : Int) : Prop := (0 ≤ x ∧ x ≤ 103) ∧ 0 ≤ y ∧ y ≤ 103
noncomputable def plB (x y : Int) : Bool := @decide (PlOk x y) (Classical.propDecidable _)
theorem plB_yes {x y : Int} (h : PlOk x y) : plB x y = true := by simp [plB, h]
theorem plB_no {x y : Int} (h : ¬ PlOk x y) : plB x y = false := by simp [plB, h]

theorem l7Place_any (x y : Int) (w : World) : Calls Try.prog 26 #[.int .i64 x, .int .i64 y] w (SmPost (plB x y) w) := by
  by_cases hx : 0 ≤ x ∧ x ≤ 103
  · obtain ⟨hx0, hx1⟩ := hx
    have hy : (0 ≤ y ∧ y ≤ 103) ∨ y < 0 ∨ 103 < y := by omega
    rcases hy with ⟨h0, h1⟩ | h0 | h0
    · have HE := Lib.hid (plB_yes (x := x) (y := y) ⟨⟨hx0, hx1⟩, h0, h1⟩)
      go_enter Try.func26, Try.ntmps26
      go_wp2
      go_ret
      exact sm_post HE.out _
    · have HE := Lib.hid (plB_no (x := x) (y := y) (fun h => by have := h.2.1; omega))
      go_enter Try.func26, Try.ntmps26
      go_wp2
      go_ret
      exact sm_post HE.out _
    · have HE := Lib.hid (plB_no (x := x) (y := y) (fun h => by have := h.2.2; omega))
      have h2 : ¬ y ≤ 103 := by omega
      have h3 : 0 ≤ y := by omega
      go_enter Try.func26, Try.ntmps26
      go_wp2
      go_ret
      exact sm_post HE.out _
  · have HE := Lib.hid (plB_no (x := x) (y := y) (fun h => hx h.1))
    have hy : x < 0 ∨ 103 < x := by omega
    clear hx
    rcases hy with h0 | h0
    · go_enter Try.func26, Try.ntmps26
      go_wp2
      go_ret
      exact sm_post HE.out _
    · have h2 : ¬ x ≤ 103 := by omega
      have h3 : 0 ≤ x := by omega
      go_enter Try.func26, Try.ntmps26
      go_wp2
      go_ret
      exact sm_post HE.out _

/-- the steps between two places -/
noncomputable def farV (ax ay bx by' : Int) : Int := if plB ax ay = true ∧ plB bx by' = true then absI (ax - bx) + absI (ay - by') else -1

set_option maxHeartbeats 1000000 in
theorem specPlaceFar_any (ax ay bx by' : Int) (w : World) : Calls Try.prog 9 #[.int .i64 ax, .int .i64 ay, .int .i64 bx, .int .i64 by'] w (IntPost (farV ax ay bx by') w) := by
  have HA := Lib.hid (l7Place_any ax ay w)
  have HB := Lib.hid (l7Place_any bx by' w)
  by_cases ha : PlOk ax ay
  case neg =>
    have HF := Lib.hid (plB_no ha)
    have HV := Lib.hid (show farV ax ay bx by' = -1 by simp [farV, HF.out])
    clear ha
    go_enter Try.func9, Try.ntmps9
    go_wp2_with fail
    refine HA.out.mono ?_
    rintro e w' ⟨rfl, rfl⟩
    rw [HF.out]
    go_wp2
    go_ret
    exact ⟨ret_int HV.out.symm, Below.refl _ _⟩
  case pos =>
    have HF := Lib.hid (plB_yes ha)
    by_cases hb : PlOk bx by'
    case neg =>
      have HG := Lib.hid (plB_no hb)
      have HV := Lib.hid (show farV ax ay bx by' = -1 by simp [farV, HG.out])
      clear ha hb
      go_enter Try.func9, Try.ntmps9
      go_wp2_with fail
      refine HA.out.mono ?_
      rintro e w' ⟨rfl, rfl⟩
      rw [HF.out]
      go_wp2_with fail
      refine HB.out.mono ?_
      rintro e w' ⟨rfl, rfl⟩
      rw [HG.out]
      go_wp2
      go_ret
      exact ⟨ret_int HV.out.symm, Below.refl _ _⟩
    case pos =>
      have HG := Lib.hid (plB_yes hb)
      have HV := Lib.hid (show farV ax ay bx by' = absI (ax - bx) + absI (ay - by') by simp [farV, HG.out, HF.out])
      obtain ⟨⟨a0, a1⟩, a2, a3⟩ := ha
      obtain ⟨⟨b0, b1⟩, b2, b3⟩ := hb
      have r1 := absI_range (n := ax - bx)
      have q1 : 0 ≤ absI (ax - bx) ∧ absI (ax - bx) ≤ 1000 := by unfold absI; omega
      have q2 : 0 ≤ absI (ay - by') ∧ absI (ay - by') ≤ 1000 := by unfold absI; omega
      have H1 := Lib.hid (l7Size_any (ax - bx) w (by omega) (by omega))
      have H2 := Lib.hid (l7Size_any (ay - by') w (by omega) (by omega))
      clear r1
      go_enter Try.func9, Try.ntmps9
      go_wp2_with fail
      refine HA.out.mono ?_
      rintro e w' ⟨rfl, rfl⟩
      rw [HF.out]
      go_wp2_with fail
      refine HB.out.mono ?_
      rintro e w' ⟨rfl, rfl⟩
      rw [HG.out]
      go_wp2_with fail
      refine H1.out.mono ?_
      rintro e w' ⟨rfl, hw⟩
      obtain rfl : w = w' := hw.symm
      go_wp2_with fail
      refine H2.out.mono ?_
      rintro e w' ⟨rfl, hw⟩
      obtain rfl : w = w' := hw.symm
      go_wp2
      go_ret
      exact ⟨ret_int HV.out.symm, Below.refl _ _⟩

theorem cells2 {w : World} {b : Nat} {x y : Value} {t : TypeId} (h : w.heap[b]? = some (.cells #[x, y] t (0, 0))) :
    w.cell? ⟨b, 0, none⟩ = some x ∧ w.cell? ⟨b, 1, none⟩ = some y ∧ w.frozen? ⟨b, 0, none⟩ = false ∧ w.frozen? ⟨b, 1, none⟩ = false := by
  simp [World.cell?, World.frozen?, h]
theorem Try.sizePl : (Try.prog.info? 38).map (·.size) = some 2 := by kernel_rfl

set_option maxHeartbeats 1000000 in
theorem placeValid_any (x y : Int) (w : World) : Calls Try.prog 51 #[.agg #[.int .i64 x, .int .i64 y]] w (BlPost (plB x y) w) := by
  have hb : Below w.heap.size w (w.alloc (.cells #[.int .i64 x, .int .i64 y] 38)) := (Below.refl _ _).alloc (Nat.le_refl _) _
  have HB := Lib.hid hb
  clear hb
  by_cases hx : 0 ≤ x ∧ x ≤ 103
  · obtain ⟨hx0, hx1⟩ := hx
    have hy : (0 ≤ y ∧ y ≤ 103) ∨ y < 0 ∨ 103 < y := by omega
    rcases hy with ⟨h0, h1⟩ | h0 | h0
    · have HE := Lib.hid (plB_yes (x := x) (y := y) ⟨⟨hx0, hx1⟩, h0, h1⟩)
      go_enter Try.func51, Try.ntmps51
      go_wp2
      go_ret
      exact bl_post HE.out HB.out
    · have HE := Lib.hid (plB_no (x := x) (y := y) (fun h => by have := h.2.1; omega))
      go_enter Try.func51, Try.ntmps51
      go_wp2
      go_ret
      exact bl_post HE.out HB.out
    · have HE := Lib.hid (plB_no (x := x) (y := y) (fun h => by have := h.2.2; omega))
      have h2 : ¬ y ≤ 103 := by omega
      have h3 : 0 ≤ y := by omega
      go_enter Try.func51, Try.ntmps51
      go_wp2
      go_ret
      exact bl_post HE.out HB.out
  · have HE := Lib.hid (plB_no (x := x) (y := y) (fun h => hx h.1))
    have hy : x < 0 ∨ 103 < x := by omega
    clear hx
    rcases hy with h0 | h0
    · go_enter Try.func51, Try.ntmps51
      go_wp2
      go_ret
      exact bl_post HE.out HB.out
    · have h2 : ¬ x ≤ 103 := by omega
      have h3 : 0 ≤ x := by omega
      go_enter Try.func51, Try.ntmps51
      go_wp2
      go_ret
      exact bl_post HE.out HB.out

end Go.Proofs.Ytbjhaggncpkdhaa
