/- PlaceFar of the model and of the program. -/
import Derived.Test.YteoncpifjifjlaaDoorGpJ
import Derived.Test.YteoncpifjifjlaaDoorPl
namespace Go.Proofs.YteoncpifjifjlaaDoor
open Go.RowKit
set_option linter.unusedVariables false

/-- the steps between two places -/
noncomputable def farV (ax ay bx by' : Int) : Int := if plB ax ay = true ∧ plB bx by' = true then absI (ax - bx) + absI (ay - by') else -1

set_option maxHeartbeats 1000000 in
theorem specPlaceFar_any (ax ay bx by' : Int) (w : World) : Calls Tryd.prog 36 #[.int .i64 ax, .int .i64 ay, .int .i64 bx, .int .i64 by'] w (IntPost (farV ax ay bx by') w) := by
  have HA := Lib.hid (l7Place_any ax ay w)
  have HB := Lib.hid (l7Place_any bx by' w)
  by_cases ha : PlOk ax ay
  case neg =>
    have HF := Lib.hid (plB_no ha)
    have HV := Lib.hid (show farV ax ay bx by' = -1 by simp [farV, HF.out])
    clear ha
    go_enter Tryd.func36, Tryd.ntmps36
    go_wp2_with fail
    refine HA.out.mono ?_
    rintro e w' ⟨rfl, rfl⟩
    rw [HF.out]
    go_wp2
    go_ret
    exact ⟨ret_int HV.out.symm, Below.refl _ _⟩
  case pos =>
    have HF := Lib.hid (plB_yes ha)
    by_cases hb : PlOk bx by'
    case neg =>
      have HG := Lib.hid (plB_no hb)
      have HV := Lib.hid (show farV ax ay bx by' = -1 by simp [farV, HG.out])
      clear ha hb
      go_enter Tryd.func36, Tryd.ntmps36
      go_wp2_with fail
      refine HA.out.mono ?_
      rintro e w' ⟨rfl, rfl⟩
      rw [HF.out]
      go_wp2_with fail
      refine HB.out.mono ?_
      rintro e w' ⟨rfl, rfl⟩
      rw [HG.out]
      go_wp2
      go_ret
      exact ⟨ret_int HV.out.symm, Below.refl _ _⟩
    case pos =>
      have HG := Lib.hid (plB_yes hb)
      have HV := Lib.hid (show farV ax ay bx by' = absI (ax - bx) + absI (ay - by') by simp [farV, HG.out, HF.out])
      obtain ⟨⟨a0, a1⟩, a2, a3⟩ := ha
      obtain ⟨⟨b0, b1⟩, b2, b3⟩ := hb
      have r1 := absI_range (n := ax - bx)
      have q1 : 0 ≤ absI (ax - bx) ∧ absI (ax - bx) ≤ 1000 := by unfold absI; omega
      have q2 : 0 ≤ absI (ay - by') ∧ absI (ay - by') ≤ 1000 := by unfold absI; omega
      have H1 := Lib.hid (l7Size_any (ax - bx) w (by omega) (by omega))
      have H2 := Lib.hid (l7Size_any (ay - by') w (by omega) (by omega))
      clear r1
      go_enter Tryd.func36, Tryd.ntmps36
      go_wp2_with fail
      refine HA.out.mono ?_
      rintro e w' ⟨rfl, rfl⟩
      rw [HF.out]
      go_wp2_with fail
      refine HB.out.mono ?_
      rintro e w' ⟨rfl, rfl⟩
      rw [HG.out]
      go_wp2_with fail
      refine H1.out.mono ?_
      rintro e w' ⟨rfl, hw⟩
      obtain rfl : w = w' := hw.symm
      go_wp2_with fail
      refine H2.out.mono ?_
      rintro e w' ⟨rfl, hw⟩
      obtain rfl : w = w' := hw.symm
      go_wp2
      go_ret
      exact ⟨ret_int HV.out.symm, Below.refl _ _⟩


end Go.Proofs.YteoncpifjifjlaaDoor
