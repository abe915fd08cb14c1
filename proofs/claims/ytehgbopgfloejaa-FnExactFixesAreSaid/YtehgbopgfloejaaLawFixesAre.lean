/- The exact law of FixesAre: its walk, out of the two functions' contracts. -/
import Derived.Test.YtehgbopgfloejaaEn
import Derived.Test.YtehgbopgfloejaaFb
import Derived.Test.YtehgbopgfloejaaHelp2
namespace Go.Proofs.Ytehgbopgfloejaa
open Go.RowKit
set_option linter.unusedVariables false

set_option maxRecDepth 20000 in
set_option maxHeartbeats 8000000 in
theorem law_FnExactFixesAre (v0 : Value) (g0 : G) (v1 : Value) (n1 : Nat) (z1 : Nat → Int) (w : World) (b : Bool) (hv0 : RdM 0 w.heap.size w v0 g0) (hv1 : RdT 0 w.heap.size w v1 n1 z1)
    (hspec : n1 ≤ 1048576 → ∀ (u0 : Value) (u1 : Value) (W : World), RdM 0 W.heap.size W u0 g0 → RdT 0 W.heap.size W u1 n1 z1 → Calls Try.prog 35 #[u0, u1] W (BlPost b W))
    (himpl : n1 ≤ 1048576 → ∀ (u0 : Value) (u1 : Value) (W : World), RdM 0 W.heap.size W u0 g0 → RdT 0 W.heap.size W u1 n1 z1 → Calls Try.prog 36 #[u0, u1] W (BlPost b W))
    : Calls Try.prog 8 #[v0, v1] w (LawPost w) := by
  obtain ⟨va1, vc1, rfl⟩ := hv1.shape
  have hmx1 : n1 ≤ 9223372036854775807 := by obtain ⟨_, _, _, _, he, q1, q2, _⟩ := hv1; simp only [Value.slice.injEq] at he; omega
  have HSZ1 := Lib.hid (fun (l : Int) (W : World) (h0 : 0 ≤ l) (h1 : l ≤ 1048576) => szFixS_q va1 n1 vc1 l W hmx1 h0 h1)
  have A0 := Lib.hid hv0
  have A1 := Lib.hid hv1
  have HSP := Lib.hid hspec
  have HIM := Lib.hid himpl
  have hx0 : (b != b) = false := by simp
  have BL := Lib.hid (Below.refl w.heap.size w)
  clear hspec himpl  hv0 hv1 hmx1
  go_enter Try.func8, Try.ntmps8
  go_wp2_with fail
  refine (szIntSS_any v0 0 w.heap.size g0 _ 1048576 A0.out (by omega) (by omega)).mono ?_
  rintro e w' ⟨rfl | ⟨l0, l00, l01, rfl, n0, hl0⟩, rfl⟩
  · go_wp2
    go_ret
    exact ⟨rfl, Below.refl _ _⟩
  have HL0 := Lib.hid hl0
  clear hl0
  go_wp2_with fail
  refine (HSZ1.out l0 _ l00 l01).mono ?_
  rintro e w' ⟨rfl | ⟨l1, l10, l11, rfl, hbig1⟩, rfl⟩
  · go_wp2
    go_ret
    exact ⟨rfl, Below.refl _ _⟩
  clear HSZ1
  go_wp2_with fail
  refine (toIntSS_any v0 0 w.heap.size g0 _ A0.out n0 HL0.out (by omega)).mono ?_
  rintro e w1 ⟨rfl, ow1, bw1⟩
  have sw1 : w.heap.size ≤ w1.heap.size := bw1.size
  have L_1 := Lib.hid (A0.out.same (SameIn.below bw1 (by omega)))
  clear A0
  have L_2 := Lib.hid (A1.out.same (SameIn.below bw1 (by omega)))
  clear A1
  have O_3 := Lib.hid ow1
  have BL_4 := Lib.hid (BL.out.trans (bw1.mono (by omega)))
  clear BL
  clear ow1 bw1
  go_wp2_with fail
  refine (toT_any _ 0 w.heap.size n1 z1 _ L_2.out hbig1 (by omega)).mono ?_
  rintro e w2 ⟨r_5, rfl, ⟨_, _, _, rfl⟩, ow2, bw2⟩
  have sw2 : w1.heap.size ≤ w2.heap.size := bw2.size
  have L_6 := Lib.hid (L_1.out.same (SameIn.below bw2 (by omega)))
  clear L_1
  have L_7 := Lib.hid (L_2.out.same (SameIn.below bw2 (by omega)))
  clear L_2
  have L_8 := Lib.hid (O_3.out.same (SameIn.below bw2 (by omega)))
  clear O_3
  have O_9 := Lib.hid ow2
  have BL_10 := Lib.hid (BL_4.out.trans (bw2.mono (by omega)))
  clear BL_4
  clear ow2 bw2
  go_wp2_with fail
  refine (HSP.out hbig1 _ _ _ (L_8.out.rd.mono (Nat.zero_le _) (by omega)) (O_9.out.rd.mono (Nat.zero_le _) (by omega))).mono ?_
  rintro e w3 ⟨rfl, bw3⟩
  have sw3 : w2.heap.size ≤ w3.heap.size := bw3.size
  have L_11 := Lib.hid (L_6.out.same (SameIn.below bw3 (by omega)))
  clear L_6
  have L_12 := Lib.hid (L_7.out.same (SameIn.below bw3 (by omega)))
  clear L_7
  have L_13 := Lib.hid (L_8.out.same (SameIn.below bw3 (by omega)))
  clear L_8
  have L_14 := Lib.hid (O_9.out.same (SameIn.below bw3 (by omega)))
  clear O_9
  have BL_15 := Lib.hid (BL_10.out.trans (bw3.mono (by omega)))
  clear BL_10
  clear bw3
  go_wp2_with fail
  refine (toIntSS_any v0 0 w.heap.size g0 _ L_11.out n0 HL0.out (by omega)).mono ?_
  rintro e w4 ⟨rfl, ow4, bw4⟩
  have sw4 : w3.heap.size ≤ w4.heap.size := bw4.size
  have L_16 := Lib.hid (L_11.out.same (SameIn.below bw4 (by omega)))
  clear L_11
  have L_17 := Lib.hid (L_12.out.same (SameIn.below bw4 (by omega)))
  clear L_12
  have O_18 := Lib.hid ow4
  have BL_19 := Lib.hid (BL_15.out.trans (bw4.mono (by omega)))
  clear BL_15
  clear ow4 bw4
  go_wp2_with fail
  refine (toT_any _ 0 w.heap.size n1 z1 _ L_17.out hbig1 (by omega)).mono ?_
  rintro e w5 ⟨r_20, rfl, ⟨_, _, _, rfl⟩, ow5, bw5⟩
  have sw5 : w4.heap.size ≤ w5.heap.size := bw5.size
  have L_21 := Lib.hid (L_16.out.same (SameIn.below bw5 (by omega)))
  clear L_16
  have L_22 := Lib.hid (L_17.out.same (SameIn.below bw5 (by omega)))
  clear L_17
  have L_23 := Lib.hid (O_18.out.same (SameIn.below bw5 (by omega)))
  clear O_18
  have O_24 := Lib.hid ow5
  have BL_25 := Lib.hid (BL_19.out.trans (bw5.mono (by omega)))
  clear BL_19
  clear ow5 bw5
  go_wp2_with fail
  refine (HIM.out hbig1 _ _ _ (L_23.out.rd.mono (Nat.zero_le _) (by omega)) (O_24.out.rd.mono (Nat.zero_le _) (by omega))).mono ?_
  rintro e w6 ⟨rfl, bw6⟩
  have sw6 : w5.heap.size ≤ w6.heap.size := bw6.size
  have L_26 := Lib.hid (L_21.out.same (SameIn.below bw6 (by omega)))
  clear L_21
  have L_27 := Lib.hid (L_22.out.same (SameIn.below bw6 (by omega)))
  clear L_22
  have L_28 := Lib.hid (L_23.out.same (SameIn.below bw6 (by omega)))
  clear L_23
  have L_29 := Lib.hid (O_24.out.same (SameIn.below bw6 (by omega)))
  clear O_24
  have BL_30 := Lib.hid (BL_25.out.trans (bw6.mono (by omega)))
  clear BL_25
  clear bw6
  go_wp2_with fail
  refine (toIntSS_any v0 0 w.heap.size g0 _ L_26.out n0 HL0.out (by omega)).mono ?_
  rintro e w7 ⟨rfl, ow7, bw7⟩
  have sw7 : w6.heap.size ≤ w7.heap.size := bw7.size
  have L_31 := Lib.hid (L_26.out.same (SameIn.below bw7 (by omega)))
  clear L_26
  have L_32 := Lib.hid (L_27.out.same (SameIn.below bw7 (by omega)))
  clear L_27
  have L_33 := Lib.hid (L_28.out.same (SameIn.below bw7 (by omega)))
  clear L_28
  have L_34 := Lib.hid (L_29.out.same (SameIn.below bw7 (by omega)))
  clear L_29
  have O_35 := Lib.hid ow7
  have BL_36 := Lib.hid (BL_30.out.trans (bw7.mono (by omega)))
  clear BL_30
  clear ow7 bw7
  go_wp2_with fail
  refine (eqIntSS_any _ _ _ _ _ _ g0 _ L_33.out.rd O_35.out.rd).mono ?_
  intro e w8 hq
  obtain ⟨rfl, bw8⟩ := hq.below
  clear hq
  have sw8 : w7.heap.size ≤ w8.heap.size := bw8.size
  have L_37 := Lib.hid (L_31.out.same (SameIn.below bw8 (by omega)))
  clear L_31
  have L_38 := Lib.hid (L_32.out.same (SameIn.below bw8 (by omega)))
  clear L_32
  have L_39 := Lib.hid (L_33.out.same (SameIn.below bw8 (by omega)))
  clear L_33
  have L_40 := Lib.hid (L_34.out.same (SameIn.below bw8 (by omega)))
  clear L_34
  have L_41 := Lib.hid (O_35.out.same (SameIn.below bw8 (by omega)))
  clear O_35
  have BL_42 := Lib.hid (BL_36.out.trans (bw8.mono (by omega)))
  clear BL_36
  clear bw8
  go_wp2_with fail
  refine (toT_any _ 0 w.heap.size n1 z1 _ L_38.out hbig1 (by omega)).mono ?_
  rintro e w9 ⟨r_43, rfl, ⟨_, _, _, rfl⟩, ow9, bw9⟩
  have sw9 : w8.heap.size ≤ w9.heap.size := bw9.size
  have L_44 := Lib.hid (L_37.out.same (SameIn.below bw9 (by omega)))
  clear L_37
  have L_45 := Lib.hid (L_38.out.same (SameIn.below bw9 (by omega)))
  clear L_38
  have L_46 := Lib.hid (L_39.out.same (SameIn.below bw9 (by omega)))
  clear L_39
  have L_47 := Lib.hid (L_40.out.same (SameIn.below bw9 (by omega)))
  clear L_40
  have O_48 := Lib.hid ow9
  have BL_49 := Lib.hid (BL_42.out.trans (bw9.mono (by omega)))
  clear BL_42
  clear ow9 bw9
  go_wp2_with fail
  refine (eqT_any _ _ _ _ _ _ n1 z1 z1 _ L_47.out.rd O_48.out.rd (fun _ _ => rfl) (by omega) (by omega)).mono ?_
  rintro e w10 ⟨rfl, bw10⟩
  have sw10 : w9.heap.size ≤ w10.heap.size := bw10.size
  have L_50 := Lib.hid (L_44.out.same (SameIn.below bw10 (by omega)))
  clear L_44
  have L_51 := Lib.hid (L_45.out.same (SameIn.below bw10 (by omega)))
  clear L_45
  have L_52 := Lib.hid (L_46.out.same (SameIn.below bw10 (by omega)))
  clear L_46
  have L_53 := Lib.hid (L_47.out.same (SameIn.below bw10 (by omega)))
  clear L_47
  have L_54 := Lib.hid (O_48.out.same (SameIn.below bw10 (by omega)))
  clear O_48
  have BL_55 := Lib.hid (BL_49.out.trans (bw10.mono (by omega)))
  clear BL_49
  clear bw10
  go_wp2
  go_ret
  exact ⟨rfl, BL_55.out⟩

end Go.Proofs.Ytehgbopgfloejaa
