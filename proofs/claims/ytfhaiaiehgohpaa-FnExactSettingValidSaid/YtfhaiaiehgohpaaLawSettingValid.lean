/- The exact law of SettingValid: its walk, out of the two functions' contracts. -/
import Derived.Test.YtfhaiaiehgohpaaStL
import Derived.Test.YtfhaiaiehgohpaaLb
namespace Go.Proofs.Ytfhaiaiehgohpaa
open Go.RowKit
set_option linter.unusedVariables false

set_option maxRecDepth 20000 in
set_option maxHeartbeats 8000000 in
theorem law_FnExactSettingValid (v0 : Value) (n0 : Nat) (z0 : Nat → Int) (v1 : Value) (n1 : Nat) (z1 : Nat → Int) (w : World) (m : Bool) (hv0 : RdT 0 w.heap.size w v0 n0 z0) (hv1 : RdI 0 w.heap.size w v1 n1 z1)
    (hspec : n0 ≤ 1048576 → n1 ≤ 1048576 → ∀ (u0 : Value) (u1 : Value) (W : World), RdT 0 W.heap.size W u0 n0 z0 → RdI 0 W.heap.size W u1 n1 z1 → Calls Try.prog 26 #[u0, u1] W (BlPost m W))
    (himpl : n0 ≤ 1048576 → n1 ≤ 1048576 → ∀ (u0 : Value) (u1 : Value) (W : World), RdT 0 W.heap.size W u0 n0 z0 → RdI 0 W.heap.size W u1 n1 z1 → Calls Try.prog 28 #[u0, u1] W (BlPost m W))
    : Calls Try.prog 5 #[v0, v1] w (LawPost w) := by
  obtain ⟨va0, vc0, rfl⟩ := hv0.shape
  obtain ⟨va1, vc1, rfl⟩ := hv1.shape
  by_cases hbig1 : n1 ≤ 1048576
  case neg =>
    have hbig1' : (1048576 : Int) < n1 := by omega
    clear hspec himpl hv0 hv1 
    go_enter Try.func5, Try.ntmps5
    go_wp2
    go_ret
    exact ⟨rfl, Below.refl _ _⟩
  have hbig1' : ¬ (1048576 : Int) < n1 := by omega
  have hmx0 : n0 ≤ 9223372036854775807 := by obtain ⟨_, _, _, _, he, q1, q2, _⟩ := hv0; simp only [Value.slice.injEq] at he; omega
  have HSZ0 := Lib.hid (fun W : World => szLabelS_any va0 n0 vc0 1048576 W hmx0 (by omega) (by omega))
  by_cases hbig0 : n0 ≤ 1048576
  case neg =>
    have hb1 := Lib.hid hbig0
    clear hspec himpl hv0 hv1  hmx0
    go_enter Try.func5, Try.ntmps5
    go_wp2_with fail
    refine (HSZ0.out _).mono ?_
    rintro e w1 ⟨hq, rfl⟩
    rcases hq with ⟨hq1, rfl⟩ | ⟨hq1, rfl⟩
    · clear hq1
      go_wp2
      go_ret
      exact ⟨rfl, Below.refl _ _⟩
    · have := hb1.out; omega
  have HSP := Lib.hid (hspec hbig0 hbig1)
  have HIM := Lib.hid (himpl hbig0 hbig1)
  have hx0 : (m != m) = false := by simp
  have A0 := Lib.hid hv0
  have A1 := Lib.hid hv1
  have BL := Lib.hid (Below.refl w.heap.size w)
  clear hspec himpl hv0 hv1
  go_enter Try.func5, Try.ntmps5
  have hle0 : ¬ ((1048576 : Int) - n0 < 0) := by omega
  go_wp2_with fail
  refine (HSZ0.out _).mono ?_
  rintro e w0 ⟨hq, rfl⟩
  rcases hq with ⟨hq1, rfl⟩ | ⟨hq1, rfl⟩
  · have := hbig0; omega
  clear hq1 HSZ0 hmx0
  go_wp2_with fail
  refine (toT_any _ 0 w.heap.size n0 z0 _ A0.out hbig0 (by omega)).mono ?_
  rintro e w1 ⟨r_1, rfl, ⟨_, _, _, rfl⟩, ow1, bw1⟩
  have sw1 : w.heap.size ≤ w1.heap.size := bw1.size
  have L_2 := Lib.hid (A0.out.same (SameIn.below bw1 (by omega)))
  clear A0
  have L_3 := Lib.hid (A1.out.same (SameIn.below bw1 (by omega)))
  clear A1
  have O_4 := Lib.hid ow1
  have BL_5 := Lib.hid (BL.out.trans (bw1.mono (by omega)))
  clear BL
  clear ow1 bw1
  go_wp2_with fail
  refine (toL_any _ 0 w.heap.size n1 z1 _ L_3.out hbig1 (by omega)).mono ?_
  rintro e w2 ⟨r_6, rfl, ⟨_, _, _, rfl⟩, ow2, bw2⟩
  have sw2 : w1.heap.size ≤ w2.heap.size := bw2.size
  have L_7 := Lib.hid (L_2.out.same (SameIn.below bw2 (by omega)))
  clear L_2
  have L_8 := Lib.hid (L_3.out.same (SameIn.below bw2 (by omega)))
  clear L_3
  have L_9 := Lib.hid (O_4.out.same (SameIn.below bw2 (by omega)))
  clear O_4
  have O_10 := Lib.hid ow2
  have BL_11 := Lib.hid (BL_5.out.trans (bw2.mono (by omega)))
  clear BL_5
  clear ow2 bw2
  go_wp2_with fail
  refine (HSP.out _ _ _ (L_9.out.rd.mono (Nat.zero_le _) (by omega)) (O_10.out.rd.mono (Nat.zero_le _) (by omega))).mono ?_
  rintro e w3 ⟨rfl, bw3⟩
  have sw3 : w2.heap.size ≤ w3.heap.size := bw3.size
  have L_12 := Lib.hid (L_7.out.same (SameIn.below bw3 (by omega)))
  clear L_7
  have L_13 := Lib.hid (L_8.out.same (SameIn.below bw3 (by omega)))
  clear L_8
  have L_14 := Lib.hid (L_9.out.same (SameIn.below bw3 (by omega)))
  clear L_9
  have L_15 := Lib.hid (O_10.out.same (SameIn.below bw3 (by omega)))
  clear O_10
  have BL_16 := Lib.hid (BL_11.out.trans (bw3.mono (by omega)))
  clear BL_11
  clear bw3
  go_wp2_with fail
  refine (toT_any _ 0 w.heap.size n0 z0 _ L_12.out hbig0 (by omega)).mono ?_
  rintro e w4 ⟨r_17, rfl, ⟨_, _, _, rfl⟩, ow4, bw4⟩
  have sw4 : w3.heap.size ≤ w4.heap.size := bw4.size
  have L_18 := Lib.hid (L_12.out.same (SameIn.below bw4 (by omega)))
  clear L_12
  have L_19 := Lib.hid (L_13.out.same (SameIn.below bw4 (by omega)))
  clear L_13
  have O_20 := Lib.hid ow4
  have BL_21 := Lib.hid (BL_16.out.trans (bw4.mono (by omega)))
  clear BL_16
  clear ow4 bw4
  go_wp2_with fail
  refine (toL_any _ 0 w.heap.size n1 z1 _ L_19.out hbig1 (by omega)).mono ?_
  rintro e w5 ⟨r_22, rfl, ⟨_, _, _, rfl⟩, ow5, bw5⟩
  have sw5 : w4.heap.size ≤ w5.heap.size := bw5.size
  have L_23 := Lib.hid (L_18.out.same (SameIn.below bw5 (by omega)))
  clear L_18
  have L_24 := Lib.hid (L_19.out.same (SameIn.below bw5 (by omega)))
  clear L_19
  have L_25 := Lib.hid (O_20.out.same (SameIn.below bw5 (by omega)))
  clear O_20
  have O_26 := Lib.hid ow5
  have BL_27 := Lib.hid (BL_21.out.trans (bw5.mono (by omega)))
  clear BL_21
  clear ow5 bw5
  go_wp2_with fail
  refine (HIM.out _ _ _ (L_25.out.rd.mono (Nat.zero_le _) (by omega)) (O_26.out.rd.mono (Nat.zero_le _) (by omega))).mono ?_
  rintro e w6 ⟨rfl, bw6⟩
  have sw6 : w5.heap.size ≤ w6.heap.size := bw6.size
  have L_28 := Lib.hid (L_23.out.same (SameIn.below bw6 (by omega)))
  clear L_23
  have L_29 := Lib.hid (L_24.out.same (SameIn.below bw6 (by omega)))
  clear L_24
  have L_30 := Lib.hid (L_25.out.same (SameIn.below bw6 (by omega)))
  clear L_25
  have L_31 := Lib.hid (O_26.out.same (SameIn.below bw6 (by omega)))
  clear O_26
  have BL_32 := Lib.hid (BL_27.out.trans (bw6.mono (by omega)))
  clear BL_27
  clear bw6
  go_wp2_with fail
  refine (toT_any _ 0 w.heap.size n0 z0 _ L_28.out hbig0 (by omega)).mono ?_
  rintro e w7 ⟨r_33, rfl, ⟨_, _, _, rfl⟩, ow7, bw7⟩
  have sw7 : w6.heap.size ≤ w7.heap.size := bw7.size
  have L_34 := Lib.hid (L_28.out.same (SameIn.below bw7 (by omega)))
  clear L_28
  have L_35 := Lib.hid (L_29.out.same (SameIn.below bw7 (by omega)))
  clear L_29
  have L_36 := Lib.hid (L_30.out.same (SameIn.below bw7 (by omega)))
  clear L_30
  have L_37 := Lib.hid (L_31.out.same (SameIn.below bw7 (by omega)))
  clear L_31
  have O_38 := Lib.hid ow7
  have BL_39 := Lib.hid (BL_32.out.trans (bw7.mono (by omega)))
  clear BL_32
  clear ow7 bw7
  go_wp2_with fail
  refine (eqT_any _ _ _ _ _ _ n0 z0 z0 _ L_36.out.rd O_38.out.rd (fun _ _ => rfl) (by omega) (by omega)).mono ?_
  rintro e w8 ⟨rfl, bw8⟩
  have sw8 : w7.heap.size ≤ w8.heap.size := bw8.size
  have L_40 := Lib.hid (L_34.out.same (SameIn.below bw8 (by omega)))
  clear L_34
  have L_41 := Lib.hid (L_35.out.same (SameIn.below bw8 (by omega)))
  clear L_35
  have L_42 := Lib.hid (L_36.out.same (SameIn.below bw8 (by omega)))
  clear L_36
  have L_43 := Lib.hid (L_37.out.same (SameIn.below bw8 (by omega)))
  clear L_37
  have L_44 := Lib.hid (O_38.out.same (SameIn.below bw8 (by omega)))
  clear O_38
  have BL_45 := Lib.hid (BL_39.out.trans (bw8.mono (by omega)))
  clear BL_39
  clear bw8
  go_wp2_with fail
  refine (toL_any _ 0 w.heap.size n1 z1 _ L_41.out hbig1 (by omega)).mono ?_
  rintro e w9 ⟨r_46, rfl, ⟨_, _, _, rfl⟩, ow9, bw9⟩
  have sw9 : w8.heap.size ≤ w9.heap.size := bw9.size
  have L_47 := Lib.hid (L_40.out.same (SameIn.below bw9 (by omega)))
  clear L_40
  have L_48 := Lib.hid (L_41.out.same (SameIn.below bw9 (by omega)))
  clear L_41
  have L_49 := Lib.hid (L_42.out.same (SameIn.below bw9 (by omega)))
  clear L_42
  have L_50 := Lib.hid (L_43.out.same (SameIn.below bw9 (by omega)))
  clear L_43
  have O_51 := Lib.hid ow9
  have BL_52 := Lib.hid (BL_45.out.trans (bw9.mono (by omega)))
  clear BL_45
  clear ow9 bw9
  go_wp2_with fail
  refine (eqIntS_any _ _ _ _ _ _ n1 z1 z1 _ L_50.out.rd O_51.out.rd (fun _ _ => rfl)).mono ?_
  intro e w10 hq
  obtain ⟨rfl, bw10⟩ := hq.below
  clear hq
  have sw10 : w9.heap.size ≤ w10.heap.size := bw10.size
  have L_53 := Lib.hid (L_47.out.same (SameIn.below bw10 (by omega)))
  clear L_47
  have L_54 := Lib.hid (L_48.out.same (SameIn.below bw10 (by omega)))
  clear L_48
  have L_55 := Lib.hid (L_49.out.same (SameIn.below bw10 (by omega)))
  clear L_49
  have L_56 := Lib.hid (L_50.out.same (SameIn.below bw10 (by omega)))
  clear L_50
  have L_57 := Lib.hid (O_51.out.same (SameIn.below bw10 (by omega)))
  clear O_51
  have BL_58 := Lib.hid (BL_52.out.trans (bw10.mono (by omega)))
  clear BL_52
  clear bw10
  go_wp2
  go_ret
  exact ⟨rfl, BL_58.out⟩

end Go.Proofs.Ytfhaiaiehgohpaa
