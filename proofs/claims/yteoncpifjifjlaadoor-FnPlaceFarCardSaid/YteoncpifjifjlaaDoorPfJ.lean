/- The program's PlaceFar, and its exact law. -/
import Derived.Test.YteoncpifjifjlaaDoorPfI
namespace Go.Proofs.YteoncpifjifjlaaDoor
open Go.RowKit
set_option linter.unusedVariables false

set_option maxHeartbeats 2000000 in
theorem implPlaceFar_any (ax ay bx by' : Int) (w : World) : Calls Tryd.prog 35 #[.int .i64 ax, .int .i64 ay, .int .i64 bx, .int .i64 by'] w (IntPost (farV ax ay bx by') w) := by
  have HC := Lib.hid (placesOf_any ax ay bx by' w)
  by_cases h : PlOk ax ay ∧ PlOk bx by'
  case neg =>
    have hf : (plB ax ay && plB bx by') = false := by
      by_cases ha : PlOk ax ay
      · simp [plB_no (fun hb => h ⟨ha, hb⟩)]
      · simp [plB_no ha]
    have HF := Lib.hid hf
    have HV := Lib.hid (show farV ax ay bx by' = -1 by
      unfold farV; rw [if_neg]; rintro ⟨h1, h2⟩; rw [h1, h2] at hf; cases hf)
    clear h hf
    go_enter Tryd.func35, Tryd.ntmps35
    go_wp2_with fail
    refine HC.out.mono ?_
    rintro e w1 ⟨rfl, hb1⟩
    rw [HF.out]
    have HB := Lib.hid (show Below w.heap.size w ((w1.alloc (.cells #[.int .i64 ax, .int .i64 ay] 81)).alloc (.cells #[.int .i64 bx, .int .i64 by'] 81)) from (hb1.alloc hb1.size _).alloc (by have := hb1.size; simp; omega) _)
    clear hb1
    go_wp2
    go_ret
    exact ⟨ret_int HV.out.symm, HB.out⟩
  case pos =>
    have HF := Lib.hid (show (plB ax ay && plB bx by') = true by simp [plB_yes h.1, plB_yes h.2])
    have HV := Lib.hid (show farV ax ay bx by' = absI (ax - bx) + absI (ay - by') by unfold farV; rw [if_pos ⟨plB_yes h.1, plB_yes h.2⟩])
    obtain ⟨⟨⟨a0, a1⟩, a2, a3⟩, ⟨b0, b1⟩, b2, b3⟩ := h
    have q1 : 0 ≤ absI (ax - bx) ∧ absI (ax - bx) ≤ 1000 := by unfold absI; omega
    have q2 : 0 ≤ absI (ay - by') ∧ absI (ay - by') ≤ 1000 := by unfold absI; omega
    have H1 := Lib.hid (fun W : World => apart_any ax bx W (by omega) (by omega))
    have H2 := Lib.hid (fun W : World => apart_any ay by' W (by omega) (by omega))
    have hS : IntKind.i64.wrap (absI (ax - bx) + absI (ay - by')) = absI (ax - bx) + absI (ay - by') := IntWalk.i64_in _ (by omega)
    clear a0 a1 a2 a3 b0 b1 b2 b3
    go_enter Tryd.func35, Tryd.ntmps35
    go_wp2_with fail
    refine HC.out.mono ?_
    rintro e w1 ⟨rfl, hb1⟩
    rw [HF.out]
    have HB := Lib.hid (show Below w.heap.size w ((w1.alloc (.cells #[.int .i64 ax, .int .i64 ay] 81)).alloc (.cells #[.int .i64 bx, .int .i64 by'] 81)) from (hb1.alloc hb1.size _).alloc (by have := hb1.size; simp; omega) _)
    obtain ⟨k0, k1, _, _⟩ := cellsPl (heap_alloc2_old w1 (.cells #[.int .i64 ax, .int .i64 ay] 81) (.cells #[.int .i64 bx, .int .i64 by'] 81))
    obtain ⟨l0, l1, _, _⟩ := cellsPl (heap_alloc2_new w1 (.cells #[.int .i64 ax, .int .i64 ay] 81) (.cells #[.int .i64 bx, .int .i64 by'] 81))
    clear hb1
    go_wp2_with fail
    go_quiet ((first | (go_at_call 66; with_reducible exact Calls.quiet_of_same (H1.out _)) | (go_at_call 66; with_reducible exact Calls.quiet_of_same (H2.out _))))
    clear hS
    go_wp2
    go_ret
    exact ⟨ret_int HV.out.symm, below_drewN HB.out _⟩

end Go.Proofs.YteoncpifjifjlaaDoor
