/- The model's GridsGap and GridsAgree for every pair of grids. -/
import Derived.Test.YtjllmidagcniaaaGpJ
namespace Go.Proofs.Ytjllmidagcniaaa
open Go.RowKit
set_option linter.unusedVariables false

theorem specGridsGap_any (v u : Value) (lo hi : Nat) (a b : G) (w : World) (hv : RdM lo hi w v a) (hu : RdM lo hi w u b) :
    Calls Try.prog 24 #[v, u] w (IntPost (gapV a b) w) := by
  by_cases h : RwOk a b
  · rw [gapV_yes h]; exact specGridsGap_yes v u lo hi a b w hv hu h
  · rw [gapV_no h]; exact specGridsGap_no v u lo hi a b w hv hu h

set_option maxHeartbeats 1000000 in
theorem specGridsAgree_any (v u : Value) (lo hi : Nat) (a b : G) (w : World) (hv : RdM lo hi w v a) (hu : RdM lo hi w u b) :
    Calls Try.prog 14 #[v, u] w (BlPost (agB a b) w) := by
  have HC := Lib.hid (specGridsGap_any v u lo hi a b w hv hu)
  clear hv hu
  by_cases h0 : gapV a b = 0
  · have hx : (gapV a b == 0) = true := by rw [h0]; rfl
    have HA := Lib.hid (show agB a b = true by simp [agB, h0])
    clear h0
    go_enter Try.func14, Try.ntmps14
    go_wp2_with fail
    refine HC.out.mono ?_
    rintro e w1 ⟨rfl, hb1⟩
    have HB := Lib.hid hb1
    clear hb1
    go_wp2
    go_ret
    exact ⟨by rw [HA.out]; rfl, HB.out⟩
  · have hx : (gapV a b == 0) = false := by simp [h0]
    have HA := Lib.hid (show agB a b = false by simp [agB, h0])
    clear h0
    go_enter Try.func14, Try.ntmps14
    go_wp2_with fail
    refine HC.out.mono ?_
    rintro e w1 ⟨rfl, hb1⟩
    have HB := Lib.hid hb1
    clear hb1
    go_wp2
    go_ret
    exact ⟨by rw [HA.out]; rfl, HB.out⟩

end Go.Proofs.Ytjllmidagcniaaa
