/- The exact law of EditionFar: its walk, out of the two functions' contracts. -/
import Derived.Test.YtehgbopgfloejaaEg
import Derived.Test.YtehgbopgfloejaaFb
import Derived.Test.YtehgbopgfloejaaHelp2
namespace Go.Proofs.Ytehgbopgfloejaa
open Go.RowKit
set_option linter.unusedVariables false

set_option maxRecDepth 20000 in
set_option maxHeartbeats 8000000 in
theorem law_FnExactEditionFar (v0 : Value) (g0 : G) (v1 : Value) (g1 : G) (w : World) (a : Int) (hv0 : RdM 0 w.heap.size w v0 g0) (hv1 : RdM 0 w.heap.size w v1 g1)
    (hspec :  ∀ (u0 : Value) (u1 : Value) (W : World), RdM 0 W.heap.size W u0 g0 → RdM 0 W.heap.size W u1 g1 → Calls Try.prog 50 #[u0, u1] W (IntPost a W))
    (himpl :  ∀ (u0 : Value) (u1 : Value) (W : World), RdM 0 W.heap.size W u0 g0 → RdM 0 W.heap.size W u1 g1 → Calls Try.prog 51 #[u0, u1] W (IntPost a W))
    : Calls Try.prog 14 #[v0, v1] w (LawPost w) := by
  have A0 := Lib.hid hv0
  have A1 := Lib.hid hv1
  have HSP := Lib.hid hspec
  have HIM := Lib.hid himpl
  have hx0 : (a != a) = false := by simp
  have BL := Lib.hid (Below.refl w.heap.size w)
  clear hspec himpl  hv0 hv1 
  go_enter Try.func14, Try.ntmps14
  go_wp2_with fail
  refine (szIntSS_any v0 0 w.heap.size g0 _ 1048576 A0.out (by omega) (by omega)).mono ?_
  rintro e w' ⟨rfl | ⟨l0, l00, l01, rfl, n0, hl0⟩, rfl⟩
  · go_wp2
    go_ret
    exact ⟨rfl, Below.refl _ _⟩
  have HL0 := Lib.hid hl0
  clear hl0
  go_wp2_with fail
  refine (szIntSS_any v1 0 w.heap.size g1 _ l0 A1.out l00 l01).mono ?_
  rintro e w' ⟨rfl | ⟨l1, l10, l11, rfl, n1, hl1⟩, rfl⟩
  · go_wp2
    go_ret
    exact ⟨rfl, Below.refl _ _⟩
  have HL1 := Lib.hid hl1
  clear hl1
  go_wp2_with fail
  refine (toIntSS_any v0 0 w.heap.size g0 _ A0.out n0 HL0.out (by omega)).mono ?_
  rintro e w1 ⟨rfl, ow1, bw1⟩
  have sw1 : w.heap.size ≤ w1.heap.size := bw1.size
  have L_1 := Lib.hid (A0.out.same (SameIn.below bw1 (by omega)))
  clear A0
  have L_2 := Lib.hid (A1.out.same (SameIn.below bw1 (by omega)))
  clear A1
  have O_3 := Lib.hid ow1
  have BL_4 := Lib.hid (BL.out.trans (bw1.mono (by omega)))
  clear BL
  clear ow1 bw1
  go_wp2_with fail
  refine (toIntSS_any v1 0 w.heap.size g1 _ L_2.out n1 HL1.out (by omega)).mono ?_
  rintro e w2 ⟨rfl, ow2, bw2⟩
  have sw2 : w1.heap.size ≤ w2.heap.size := bw2.size
  have L_5 := Lib.hid (L_1.out.same (SameIn.below bw2 (by omega)))
  clear L_1
  have L_6 := Lib.hid (L_2.out.same (SameIn.below bw2 (by omega)))
  clear L_2
  have L_7 := Lib.hid (O_3.out.same (SameIn.below bw2 (by omega)))
  clear O_3
  have O_8 := Lib.hid ow2
  have BL_9 := Lib.hid (BL_4.out.trans (bw2.mono (by omega)))
  clear BL_4
  clear ow2 bw2
  go_wp2_with fail
  refine (HSP.out  _ _ _ (L_7.out.rd.mono (Nat.zero_le _) (by omega)) (O_8.out.rd.mono (Nat.zero_le _) (by omega))).mono ?_
  rintro e w3 ⟨rfl, bw3⟩
  have sw3 : w2.heap.size ≤ w3.heap.size := bw3.size
  have L_10 := Lib.hid (L_5.out.same (SameIn.below bw3 (by omega)))
  clear L_5
  have L_11 := Lib.hid (L_6.out.same (SameIn.below bw3 (by omega)))
  clear L_6
  have L_12 := Lib.hid (L_7.out.same (SameIn.below bw3 (by omega)))
  clear L_7
  have L_13 := Lib.hid (O_8.out.same (SameIn.below bw3 (by omega)))
  clear O_8
  have BL_14 := Lib.hid (BL_9.out.trans (bw3.mono (by omega)))
  clear BL_9
  clear bw3
  go_wp2_with fail
  refine (toIntSS_any v0 0 w.heap.size g0 _ L_10.out n0 HL0.out (by omega)).mono ?_
  rintro e w4 ⟨rfl, ow4, bw4⟩
  have sw4 : w3.heap.size ≤ w4.heap.size := bw4.size
  have L_15 := Lib.hid (L_10.out.same (SameIn.below bw4 (by omega)))
  clear L_10
  have L_16 := Lib.hid (L_11.out.same (SameIn.below bw4 (by omega)))
  clear L_11
  have O_17 := Lib.hid ow4
  have BL_18 := Lib.hid (BL_14.out.trans (bw4.mono (by omega)))
  clear BL_14
  clear ow4 bw4
  go_wp2_with fail
  refine (toIntSS_any v1 0 w.heap.size g1 _ L_16.out n1 HL1.out (by omega)).mono ?_
  rintro e w5 ⟨rfl, ow5, bw5⟩
  have sw5 : w4.heap.size ≤ w5.heap.size := bw5.size
  have L_19 := Lib.hid (L_15.out.same (SameIn.below bw5 (by omega)))
  clear L_15
  have L_20 := Lib.hid (L_16.out.same (SameIn.below bw5 (by omega)))
  clear L_16
  have L_21 := Lib.hid (O_17.out.same (SameIn.below bw5 (by omega)))
  clear O_17
  have O_22 := Lib.hid ow5
  have BL_23 := Lib.hid (BL_18.out.trans (bw5.mono (by omega)))
  clear BL_18
  clear ow5 bw5
  go_wp2_with fail
  refine (HIM.out  _ _ _ (L_21.out.rd.mono (Nat.zero_le _) (by omega)) (O_22.out.rd.mono (Nat.zero_le _) (by omega))).mono ?_
  rintro e w6 ⟨rfl, bw6⟩
  have sw6 : w5.heap.size ≤ w6.heap.size := bw6.size
  have L_24 := Lib.hid (L_19.out.same (SameIn.below bw6 (by omega)))
  clear L_19
  have L_25 := Lib.hid (L_20.out.same (SameIn.below bw6 (by omega)))
  clear L_20
  have L_26 := Lib.hid (L_21.out.same (SameIn.below bw6 (by omega)))
  clear L_21
  have L_27 := Lib.hid (O_22.out.same (SameIn.below bw6 (by omega)))
  clear O_22
  have BL_28 := Lib.hid (BL_23.out.trans (bw6.mono (by omega)))
  clear BL_23
  clear bw6
  go_wp2_with fail
  refine (toIntSS_any v0 0 w.heap.size g0 _ L_24.out n0 HL0.out (by omega)).mono ?_
  rintro e w7 ⟨rfl, ow7, bw7⟩
  have sw7 : w6.heap.size ≤ w7.heap.size := bw7.size
  have L_29 := Lib.hid (L_24.out.same (SameIn.below bw7 (by omega)))
  clear L_24
  have L_30 := Lib.hid (L_25.out.same (SameIn.below bw7 (by omega)))
  clear L_25
  have L_31 := Lib.hid (L_26.out.same (SameIn.below bw7 (by omega)))
  clear L_26
  have L_32 := Lib.hid (L_27.out.same (SameIn.below bw7 (by omega)))
  clear L_27
  have O_33 := Lib.hid ow7
  have BL_34 := Lib.hid (BL_28.out.trans (bw7.mono (by omega)))
  clear BL_28
  clear ow7 bw7
  go_wp2_with fail
  refine (eqIntSS_any _ _ _ _ _ _ g0 _ L_31.out.rd O_33.out.rd).mono ?_
  intro e w8 hq
  obtain ⟨rfl, bw8⟩ := hq.below
  clear hq
  have sw8 : w7.heap.size ≤ w8.heap.size := bw8.size
  have L_35 := Lib.hid (L_29.out.same (SameIn.below bw8 (by omega)))
  clear L_29
  have L_36 := Lib.hid (L_30.out.same (SameIn.below bw8 (by omega)))
  clear L_30
  have L_37 := Lib.hid (L_31.out.same (SameIn.below bw8 (by omega)))
  clear L_31
  have L_38 := Lib.hid (L_32.out.same (SameIn.below bw8 (by omega)))
  clear L_32
  have L_39 := Lib.hid (O_33.out.same (SameIn.below bw8 (by omega)))
  clear O_33
  have BL_40 := Lib.hid (BL_34.out.trans (bw8.mono (by omega)))
  clear BL_34
  clear bw8
  go_wp2_with fail
  refine (toIntSS_any v1 0 w.heap.size g1 _ L_36.out n1 HL1.out (by omega)).mono ?_
  rintro e w9 ⟨rfl, ow9, bw9⟩
  have sw9 : w8.heap.size ≤ w9.heap.size := bw9.size
  have L_41 := Lib.hid (L_35.out.same (SameIn.below bw9 (by omega)))
  clear L_35
  have L_42 := Lib.hid (L_36.out.same (SameIn.below bw9 (by omega)))
  clear L_36
  have L_43 := Lib.hid (L_37.out.same (SameIn.below bw9 (by omega)))
  clear L_37
  have L_44 := Lib.hid (L_38.out.same (SameIn.below bw9 (by omega)))
  clear L_38
  have O_45 := Lib.hid ow9
  have BL_46 := Lib.hid (BL_40.out.trans (bw9.mono (by omega)))
  clear BL_40
  clear ow9 bw9
  go_wp2_with fail
  refine (eqIntSS_any _ _ _ _ _ _ g1 _ L_44.out.rd O_45.out.rd).mono ?_
  intro e w10 hq
  obtain ⟨rfl, bw10⟩ := hq.below
  clear hq
  have sw10 : w9.heap.size ≤ w10.heap.size := bw10.size
  have L_47 := Lib.hid (L_41.out.same (SameIn.below bw10 (by omega)))
  clear L_41
  have L_48 := Lib.hid (L_42.out.same (SameIn.below bw10 (by omega)))
  clear L_42
  have L_49 := Lib.hid (L_43.out.same (SameIn.below bw10 (by omega)))
  clear L_43
  have L_50 := Lib.hid (L_44.out.same (SameIn.below bw10 (by omega)))
  clear L_44
  have L_51 := Lib.hid (O_45.out.same (SameIn.below bw10 (by omega)))
  clear O_45
  have BL_52 := Lib.hid (BL_46.out.trans (bw10.mono (by omega)))
  clear BL_46
  clear bw10
  go_wp2
  go_ret
  exact ⟨rfl, BL_52.out⟩

end Go.Proofs.Ytehgbopgfloejaa
