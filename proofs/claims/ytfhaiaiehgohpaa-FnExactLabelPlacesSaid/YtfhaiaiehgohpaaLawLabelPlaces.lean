/- The exact law of LabelPlaces: its walk, out of the two functions' contracts. -/
import Derived.Test.YtfhaiaiehgohpaaLq
import Derived.Test.YtfhaiaiehgohpaaLb
namespace Go.Proofs.Ytfhaiaiehgohpaa
open Go.RowKit
set_option linter.unusedVariables false

set_option maxRecDepth 20000 in
set_option maxHeartbeats 8000000 in
theorem law_FnExactLabelPlaces (x0 y0 a0 g0 : Int) (a1 : Int) (w : World) (b : Bool) (n : Nat) (z : Nat → Int) (hr0 : (-9223372036854775808 ≤ x0 ∧ x0 ≤ 9223372036854775807) ∧ (-9223372036854775808 ≤ y0 ∧ y0 ≤ 9223372036854775807) ∧ (-9223372036854775808 ≤ a0 ∧ a0 ≤ 9223372036854775807) ∧ (-9223372036854775808 ≤ g0 ∧ g0 ≤ 9223372036854775807)) (ha1 : -9223372036854775808 ≤ a1 ∧ a1 ≤ 9223372036854775807)
    (hspec :  ∀  (W : World),  Calls Try.prog 20 #[.agg #[.int .i64 x0, .int .i64 y0, .int .i64 a0, .int .i64 g0], .int .i64 a1] W (LsPost b n z W))
    (himpl :  ∀  (W : World),  Calls Try.prog 22 #[.agg #[.int .i64 x0, .int .i64 y0, .int .i64 a0, .int .i64 g0], .int .i64 a1] W (LgPost b n z W))
    (hn :  n ≤ 1048576)
    : Calls Try.prog 4 #[.agg #[.int .i64 x0, .int .i64 y0, .int .i64 a0, .int .i64 g0], .int .i64 a1] w (LawPost w) := by
  have HSP := Lib.hid (hspec )
  have HIM := Lib.hid (himpl )
  have hn := hn 
  have hx : (b != b) = false := by simp
  have BL := Lib.hid (Below.refl w.heap.size w)
  clear hspec himpl 
  have KX := Lib.hid (show Bx w.heap.size (w.heap.size + 1) 30 x0 y0 a0 g0 (w.alloc (.cells #[.int .i64 x0, .int .i64 y0, .int .i64 a0, .int .i64 g0] 30)) from ⟨by omega, heap_alloc_new w _⟩)
  have BK := Lib.hid (show Below w.heap.size w (w.alloc (.cells #[.int .i64 x0, .int .i64 y0, .int .i64 a0, .int .i64 g0] 30)) from (Below.refl _ _).alloc (Nat.le_refl _) _)
  clear BL
  go_enter Try.func4, Try.ntmps4
  go_wp2_with fail
  refine (toLabel_any _ _ _ _ _).mono ?_
  rintro e w1 ⟨rfl, bw1⟩
  have sw1 : w.heap.size + 1 ≤ w1.heap.size := by have h := bw1.size; rw [World.size_alloc] at h; exact h
  rw [World.size_alloc] at bw1
  have L_1 := Lib.hid (KX.out.same (SameIn.below bw1 (by omega)))
  clear KX
  have BL_2 := Lib.hid (BK.out.trans (bw1.mono (by omega)))
  clear BK
  clear bw1
  go_wp2_with fail
  refine (HSP.out  _ ).mono ?_
  rintro e w2 ⟨r_3, rfl, ⟨_, _, _, rfl⟩, ow2, bw2⟩
  have sw2 : w1.heap.size ≤ w2.heap.size := bw2.size
  have L_4 := Lib.hid (L_1.out.same (SameIn.below bw2 (by omega)))
  clear L_1
  have O_5 := Lib.hid ow2
  have BL_6 := Lib.hid (BL_2.out.trans (bw2.mono (by omega)))
  clear BL_2
  clear ow2 bw2
  obtain ⟨c0, c1, c2, c3⟩ := cellsLb L_4.out.2
  go_wp2_with fail
  refine (toLabel_any _ _ _ _ _).mono ?_
  rintro e w3 ⟨rfl, bw3⟩
  have sw3 : w2.heap.size ≤ w3.heap.size := bw3.size
  clear c0 c1 c2 c3
  have L_7 := Lib.hid (L_4.out.same (SameIn.below bw3 (by omega)))
  clear L_4
  have L_8 := Lib.hid (O_5.out.same (SameIn.below bw3 (by omega)))
  clear O_5
  have BL_9 := Lib.hid (BL_6.out.trans (bw3.mono (by omega)))
  clear BL_6
  clear bw3
  go_wp2_with fail
  refine (HIM.out  _ ).mono ?_
  rintro e w4 ⟨r_10, rfl, ⟨_, _, _, rfl⟩, ow4, bw4⟩
  have sw4 : w3.heap.size ≤ w4.heap.size := bw4.size
  have L_11 := Lib.hid (L_7.out.same (SameIn.below bw4 (by omega)))
  clear L_7
  have L_12 := Lib.hid (L_8.out.same (SameIn.below bw4 (by omega)))
  clear L_8
  have O_13 := Lib.hid ow4
  have BL_14 := Lib.hid (BL_9.out.trans (bw4.mono (by omega)))
  clear BL_9
  clear ow4 bw4
  go_wp2_with fail
  refine (eqIntS_any _ _ _ _ _ _ n z z _ O_13.out.rd L_12.out (fun _ _ => rfl)).mono ?_
  intro e w5 hq
  obtain ⟨rfl, bw5⟩ := hq.below
  clear hq
  have sw5 : w4.heap.size ≤ w5.heap.size := bw5.size
  have L_15 := Lib.hid (L_11.out.same (SameIn.below bw5 (by omega)))
  clear L_11
  have L_16 := Lib.hid (L_12.out.same (SameIn.below bw5 (by omega)))
  clear L_12
  have L_17 := Lib.hid (O_13.out.same (SameIn.below bw5 (by omega)))
  clear O_13
  have BL_18 := Lib.hid (BL_14.out.trans (bw5.mono (by omega)))
  clear BL_14
  clear bw5
  have hqq : ¬ ((1 : Int) + (n : Int) < 0) := by omega
  have hqx : ((1 : Int) + (n : Int) != 1 + (n : Int)) = false := by simp
  go_wp2_with fail
  refine (markL_any _ _ _ n z (1) _ L_17.out (by omega) (by omega) hn).mono ?_
  rintro e w6 ⟨rfl, ow6, cw6, zw6⟩
  have sw6 : w5.heap.size ≤ w6.heap.size := cw6.size
  clear zw6
  have L_19 := Lib.hid (L_15.out.same (cw6.sameIn (by omega) (by omega)))
  clear L_15
  have L_20 := Lib.hid (L_16.out.same (cw6.sameIn (by omega) (by omega)))
  clear L_16
  have BL_21 := Lib.hid (BL_18.out.trans (cw6.below (by omega) (by omega)))
  clear BL_18
  have M_22 := Lib.hid ow6
  clear ow6 cw6 L_17
  go_wp2_with fail
  refine (heldL_any _ _ _ n _ M_22.out hn).mono ?_
  rintro e w' ⟨rfl, rfl⟩
  obtain ⟨c0, c1, c2, c3⟩ := cellsLb L_19.out.2
  go_wp2_with fail
  refine (toLabel_any _ _ _ _ _).mono ?_
  rintro e w7 ⟨rfl, bw7⟩
  have sw7 : w6.heap.size ≤ w7.heap.size := bw7.size
  clear c0 c1 c2 c3
  have L_23 := Lib.hid (L_19.out.same (SameIn.below bw7 (by omega)))
  clear L_19
  have L_24 := Lib.hid (L_20.out.same (SameIn.below bw7 (by omega)))
  clear L_20
  have L_25 := Lib.hid (M_22.out.same (SameIn.below bw7 (by omega)))
  clear M_22
  have BL_26 := Lib.hid (BL_21.out.trans (bw7.mono (by omega)))
  clear BL_21
  clear bw7
  go_wp2_with fail
  refine (HIM.out  _ ).mono ?_
  rintro e w8 ⟨r_27, rfl, ⟨_, _, _, rfl⟩, ow8, bw8⟩
  have sw8 : w7.heap.size ≤ w8.heap.size := bw8.size
  have L_28 := Lib.hid (L_23.out.same (SameIn.below bw8 (by omega)))
  clear L_23
  have L_29 := Lib.hid (L_24.out.same (SameIn.below bw8 (by omega)))
  clear L_24
  have L_30 := Lib.hid (L_25.out.same (SameIn.below bw8 (by omega)))
  clear L_25
  have O_31 := Lib.hid ow8
  have BL_32 := Lib.hid (BL_26.out.trans (bw8.mono (by omega)))
  clear BL_26
  clear ow8 bw8
  go_wp2_with fail
  refine (eqIntS_any _ _ _ _ _ _ n z z _ O_31.out.rd L_29.out (fun _ _ => rfl)).mono ?_
  intro e w9 hq
  obtain ⟨rfl, bw9⟩ := hq.below
  clear hq
  have sw9 : w8.heap.size ≤ w9.heap.size := bw9.size
  have L_33 := Lib.hid (L_28.out.same (SameIn.below bw9 (by omega)))
  clear L_28
  have L_34 := Lib.hid (L_29.out.same (SameIn.below bw9 (by omega)))
  clear L_29
  have L_35 := Lib.hid (L_30.out.same (SameIn.below bw9 (by omega)))
  clear L_30
  have L_36 := Lib.hid (O_31.out.same (SameIn.below bw9 (by omega)))
  clear O_31
  have BL_37 := Lib.hid (BL_32.out.trans (bw9.mono (by omega)))
  clear BL_32
  clear bw9
  go_wp2_with fail
  refine (heldL_any _ _ _ n _ L_35.out hn).mono ?_
  rintro e w' ⟨rfl, rfl⟩
  go_wp2
  go_ret
  exact ⟨rfl, BL_37.out⟩

end Go.Proofs.Ytfhaiaiehgohpaa
