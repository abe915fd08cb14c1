/- The exact law of LabelsDrop: its walk, out of the two functions' contracts. -/
import Derived.Test.YtfhaiaiehgohpaaLe
import Derived.Test.YtfhaiaiehgohpaaLb
namespace Go.Proofs.Ytfhaiaiehgohpaa
open Go.RowKit
set_option linter.unusedVariables false

set_option maxRecDepth 20000 in
set_option maxHeartbeats 8000000 in
theorem law_FnExactLabelsDrop (v0 : Value) (n0 : Nat) (z0 : Nat → Int) (a1 : Int) (w : World) (b : Bool) (n : Nat) (z : Nat → Int) (hv0 : RdT 0 w.heap.size w v0 n0 z0) (ha1 : -9223372036854775808 ≤ a1 ∧ a1 ≤ 9223372036854775807)
    (hspec : n0 ≤ 1048576 → ∀ (u0 : Value) (W : World), RdT 0 W.heap.size W u0 n0 z0 → Calls Try.prog 40 #[u0, .int .i64 a1] W (TsPost b n z W))
    (himpl : n0 ≤ 1048576 → ∀ (u0 : Value) (W : World), RdT 0 W.heap.size W u0 n0 z0 → Calls Try.prog 41 #[u0, .int .i64 a1] W (TgPost b n z W))
    (hn : n0 ≤ 1048576 → n ≤ 1048576)
    : Calls Try.prog 11 #[v0, .int .i64 a1] w (LawPost w) := by
  obtain ⟨va0, vc0, rfl⟩ := hv0.shape
  have hmx0 : n0 ≤ 9223372036854775807 := by obtain ⟨_, _, _, _, he, q1, q2, _⟩ := hv0; simp only [Value.slice.injEq] at he; omega
  have HSZ0 := Lib.hid (fun W : World => szLabelS_any va0 n0 vc0 1048576 W hmx0 (by omega) (by omega))
  by_cases hbig0 : n0 ≤ 1048576
  case neg =>
    have hb1 := Lib.hid hbig0
    clear hspec himpl hv0 hn hmx0
    go_enter Try.func11, Try.ntmps11
    go_wp2_with fail
    refine (HSZ0.out _).mono ?_
    rintro e w1 ⟨hq, rfl⟩
    rcases hq with ⟨hq1, rfl⟩ | ⟨hq1, rfl⟩
    · clear hq1
      go_wp2
      go_ret
      exact ⟨rfl, Below.refl _ _⟩
    · have := hb1.out; omega
  have HSP := Lib.hid (hspec hbig0)
  have HIM := Lib.hid (himpl hbig0)
  have hn := hn hbig0
  have hx : (b != b) = false := by simp
  have A0 := Lib.hid hv0
  have BL := Lib.hid (Below.refl w.heap.size w)
  clear hspec himpl hv0
  go_enter Try.func11, Try.ntmps11
  have hle0 : ¬ ((1048576 : Int) - n0 < 0) := by omega
  go_wp2_with fail
  refine (HSZ0.out _).mono ?_
  rintro e w0 ⟨hq, rfl⟩
  rcases hq with ⟨hq1, rfl⟩ | ⟨hq1, rfl⟩
  · have := hbig0; omega
  clear hq1 HSZ0 hmx0
  go_wp2_with fail
  refine (toT_any _ 0 w.heap.size n0 z0 _ A0.out hbig0 (by omega)).mono ?_
  rintro e w1 ⟨r_1, rfl, ⟨_, _, _, rfl⟩, ow1, bw1⟩
  have sw1 : w.heap.size ≤ w1.heap.size := bw1.size
  have L_2 := Lib.hid (A0.out.same (SameIn.below bw1 (by omega)))
  clear A0
  have O_3 := Lib.hid ow1
  have BL_4 := Lib.hid (BL.out.trans (bw1.mono (by omega)))
  clear BL
  clear ow1 bw1
  go_wp2_with fail
  refine (HSP.out _ _ (O_3.out.rd.mono (Nat.zero_le _) (by omega))).mono ?_
  rintro e w2 ⟨r_5, rfl, ⟨_, _, _, rfl⟩, ow2, bw2⟩
  have sw2 : w1.heap.size ≤ w2.heap.size := bw2.size
  have L_6 := Lib.hid (L_2.out.same (SameIn.below bw2 (by omega)))
  clear L_2
  have L_7 := Lib.hid (O_3.out.same (SameIn.below bw2 (by omega)))
  clear O_3
  have O_8 := Lib.hid ow2
  have BL_9 := Lib.hid (BL_4.out.trans (bw2.mono (by omega)))
  clear BL_4
  clear ow2 bw2
  go_wp2_with fail
  refine (toT_any _ 0 w.heap.size n0 z0 _ L_6.out hbig0 (by omega)).mono ?_
  rintro e w3 ⟨r_10, rfl, ⟨_, _, _, rfl⟩, ow3, bw3⟩
  have sw3 : w2.heap.size ≤ w3.heap.size := bw3.size
  have L_11 := Lib.hid (L_6.out.same (SameIn.below bw3 (by omega)))
  clear L_6
  have L_12 := Lib.hid (O_8.out.same (SameIn.below bw3 (by omega)))
  clear O_8
  have O_13 := Lib.hid ow3
  have BL_14 := Lib.hid (BL_9.out.trans (bw3.mono (by omega)))
  clear BL_9
  clear ow3 bw3
  go_wp2_with fail
  refine (HIM.out _ _ (O_13.out.rd.mono (Nat.zero_le _) (by omega))).mono ?_
  rintro e w4 ⟨r_15, rfl, ⟨_, _, _, rfl⟩, ow4, bw4⟩
  have sw4 : w3.heap.size ≤ w4.heap.size := bw4.size
  have L_16 := Lib.hid (L_11.out.same (SameIn.below bw4 (by omega)))
  clear L_11
  have L_17 := Lib.hid (L_12.out.same (SameIn.below bw4 (by omega)))
  clear L_12
  have L_18 := Lib.hid (O_13.out.same (SameIn.below bw4 (by omega)))
  clear O_13
  have O_19 := Lib.hid ow4
  have BL_20 := Lib.hid (BL_14.out.trans (bw4.mono (by omega)))
  clear BL_14
  clear ow4 bw4
  go_wp2_with fail
  refine (eqT_any _ _ _ _ _ _ n z z _ O_19.out.rd L_17.out (fun _ _ => rfl) (by omega) (by omega)).mono ?_
  rintro e w5 ⟨rfl, bw5⟩
  have sw5 : w4.heap.size ≤ w5.heap.size := bw5.size
  have L_21 := Lib.hid (L_16.out.same (SameIn.below bw5 (by omega)))
  clear L_16
  have L_22 := Lib.hid (L_17.out.same (SameIn.below bw5 (by omega)))
  clear L_17
  have L_23 := Lib.hid (L_18.out.same (SameIn.below bw5 (by omega)))
  clear L_18
  have L_24 := Lib.hid (O_19.out.same (SameIn.below bw5 (by omega)))
  clear O_19
  have BL_25 := Lib.hid (BL_20.out.trans (bw5.mono (by omega)))
  clear BL_20
  clear bw5
  go_wp2_with fail
  refine (toT_any _ 0 w.heap.size n0 z0 _ L_21.out hbig0 (by omega)).mono ?_
  rintro e w6 ⟨r_26, rfl, ⟨_, _, _, rfl⟩, ow6, bw6⟩
  have sw6 : w5.heap.size ≤ w6.heap.size := bw6.size
  have L_27 := Lib.hid (L_21.out.same (SameIn.below bw6 (by omega)))
  clear L_21
  have L_28 := Lib.hid (L_22.out.same (SameIn.below bw6 (by omega)))
  clear L_22
  have L_29 := Lib.hid (L_23.out.same (SameIn.below bw6 (by omega)))
  clear L_23
  have L_30 := Lib.hid (L_24.out.same (SameIn.below bw6 (by omega)))
  clear L_24
  have O_31 := Lib.hid ow6
  have BL_32 := Lib.hid (BL_25.out.trans (bw6.mono (by omega)))
  clear BL_25
  clear ow6 bw6
  go_wp2_with fail
  refine (eqT_any _ _ _ _ _ _ n0 z0 z0 _ L_29.out.rd O_31.out.rd (fun _ _ => rfl) (by omega) (by omega)).mono ?_
  rintro e w7 ⟨rfl, bw7⟩
  have sw7 : w6.heap.size ≤ w7.heap.size := bw7.size
  have L_33 := Lib.hid (L_27.out.same (SameIn.below bw7 (by omega)))
  clear L_27
  have L_34 := Lib.hid (L_28.out.same (SameIn.below bw7 (by omega)))
  clear L_28
  have L_35 := Lib.hid (L_29.out.same (SameIn.below bw7 (by omega)))
  clear L_29
  have L_36 := Lib.hid (L_30.out.same (SameIn.below bw7 (by omega)))
  clear L_30
  have L_37 := Lib.hid (O_31.out.same (SameIn.below bw7 (by omega)))
  clear O_31
  have BL_38 := Lib.hid (BL_32.out.trans (bw7.mono (by omega)))
  clear BL_32
  clear bw7
  go_wp2_with fail
  refine (markT_any _ _ _ n0 z0 (1) _ L_35.out (by omega) (by omega) hbig0).mono ?_
  rintro e w8 ⟨rfl, ow8, cw8, zw8⟩
  have sw8 : w7.heap.size ≤ w8.heap.size := cw8.size
  clear zw8
  have L_39 := Lib.hid (L_33.out.same (cw8.sameIn (by omega) (by omega)))
  clear L_33
  have L_40 := Lib.hid (L_34.out.same (cw8.sameIn (by omega) (by omega)))
  clear L_34
  have L_41 := Lib.hid (L_36.out.same (cw8.sameIn (by omega) (by omega)))
  clear L_36
  have BL_42 := Lib.hid (BL_38.out.trans (cw8.below (by omega) (by omega)))
  clear BL_38
  clear ow8 cw8 L_35
  have hkk : ¬ (1 + (n0 : Int) * 4 < (0 : Int)) := by omega
  go_wp2_with fail
  refine (eqT_any _ _ _ _ _ _ n z z _ L_41.out.rd L_40.out (fun _ _ => rfl) (by omega) (by omega)).mono ?_
  rintro e w9 ⟨rfl, bw9⟩
  have sw9 : w8.heap.size ≤ w9.heap.size := bw9.size
  have L_43 := Lib.hid (L_39.out.same (SameIn.below bw9 (by omega)))
  clear L_39
  have L_44 := Lib.hid (L_40.out.same (SameIn.below bw9 (by omega)))
  clear L_40
  have L_45 := Lib.hid (L_41.out.same (SameIn.below bw9 (by omega)))
  clear L_41
  have BL_46 := Lib.hid (BL_42.out.trans (bw9.mono (by omega)))
  clear BL_42
  clear bw9
  have hqq : ¬ ((1 : Int) + (n : Int) * 4 < 0) := by omega
  have hqx : ((1 : Int) + (n : Int) * 4 != 1 + (n : Int) * 4) = false := by simp
  go_wp2_with fail
  refine (markT_any _ _ _ n z (1) _ L_45.out (by omega) (by omega) hn).mono ?_
  rintro e w10 ⟨rfl, ow10, cw10, zw10⟩
  have sw10 : w9.heap.size ≤ w10.heap.size := cw10.size
  clear zw10
  have L_47 := Lib.hid (L_43.out.same (cw10.sameIn (by omega) (by omega)))
  clear L_43
  have L_48 := Lib.hid (L_44.out.same (cw10.sameIn (by omega) (by omega)))
  clear L_44
  have BL_49 := Lib.hid (BL_46.out.trans (cw10.below (by omega) (by omega)))
  clear BL_46
  have M_50 := Lib.hid ow10
  clear ow10 cw10 L_45
  go_wp2_with fail
  refine (heldT_any _ _ _ n _ M_50.out hn).mono ?_
  rintro e w' ⟨rfl, rfl⟩
  go_wp2_with fail
  refine (toT_any _ 0 w.heap.size n0 z0 _ L_47.out hbig0 (by omega)).mono ?_
  rintro e w11 ⟨r_51, rfl, ⟨_, _, _, rfl⟩, ow11, bw11⟩
  have sw11 : w10.heap.size ≤ w11.heap.size := bw11.size
  have L_52 := Lib.hid (L_47.out.same (SameIn.below bw11 (by omega)))
  clear L_47
  have L_53 := Lib.hid (L_48.out.same (SameIn.below bw11 (by omega)))
  clear L_48
  have L_54 := Lib.hid (M_50.out.same (SameIn.below bw11 (by omega)))
  clear M_50
  have O_55 := Lib.hid ow11
  have BL_56 := Lib.hid (BL_49.out.trans (bw11.mono (by omega)))
  clear BL_49
  clear ow11 bw11
  go_wp2_with fail
  refine (HIM.out _ _ (O_55.out.rd.mono (Nat.zero_le _) (by omega))).mono ?_
  rintro e w12 ⟨r_57, rfl, ⟨_, _, _, rfl⟩, ow12, bw12⟩
  have sw12 : w11.heap.size ≤ w12.heap.size := bw12.size
  have L_58 := Lib.hid (L_52.out.same (SameIn.below bw12 (by omega)))
  clear L_52
  have L_59 := Lib.hid (L_53.out.same (SameIn.below bw12 (by omega)))
  clear L_53
  have L_60 := Lib.hid (L_54.out.same (SameIn.below bw12 (by omega)))
  clear L_54
  have L_61 := Lib.hid (O_55.out.same (SameIn.below bw12 (by omega)))
  clear O_55
  have O_62 := Lib.hid ow12
  have BL_63 := Lib.hid (BL_56.out.trans (bw12.mono (by omega)))
  clear BL_56
  clear ow12 bw12
  go_wp2_with fail
  refine (eqT_any _ _ _ _ _ _ n z z _ O_62.out.rd L_59.out (fun _ _ => rfl) (by omega) (by omega)).mono ?_
  rintro e w13 ⟨rfl, bw13⟩
  have sw13 : w12.heap.size ≤ w13.heap.size := bw13.size
  have L_64 := Lib.hid (L_58.out.same (SameIn.below bw13 (by omega)))
  clear L_58
  have L_65 := Lib.hid (L_59.out.same (SameIn.below bw13 (by omega)))
  clear L_59
  have L_66 := Lib.hid (L_60.out.same (SameIn.below bw13 (by omega)))
  clear L_60
  have L_67 := Lib.hid (L_61.out.same (SameIn.below bw13 (by omega)))
  clear L_61
  have L_68 := Lib.hid (O_62.out.same (SameIn.below bw13 (by omega)))
  clear O_62
  have BL_69 := Lib.hid (BL_63.out.trans (bw13.mono (by omega)))
  clear BL_63
  clear bw13
  go_wp2_with fail
  refine (heldT_any _ _ _ n _ L_66.out hn).mono ?_
  rintro e w' ⟨rfl, rfl⟩
  go_wp2
  go_ret
  exact ⟨rfl, BL_69.out⟩

end Go.Proofs.Ytfhaiaiehgohpaa
