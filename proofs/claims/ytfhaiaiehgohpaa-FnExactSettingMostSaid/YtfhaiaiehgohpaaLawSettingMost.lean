/- The exact law of SettingMost: its walk, out of the two functions' contracts. -/
import Derived.Test.YtfhaiaiehgohpaaStW
import Derived.Test.YtfhaiaiehgohpaaLb
namespace Go.Proofs.Ytfhaiaiehgohpaa
open Go.RowKit
set_option linter.unusedVariables false

set_option maxRecDepth 20000 in
set_option maxHeartbeats 8000000 in
theorem law_FnExactSettingMost (v0 : Value) (n0 : Nat) (z0 : Nat → Int) (w : World) (m : Int) (hv0 : RdT 0 w.heap.size w v0 n0 z0)
    (hspec : n0 ≤ 1048576 → ∀ (u0 : Value) (W : World), RdT 0 W.heap.size W u0 n0 z0 → Calls Try.prog 38 #[u0] W (IntPost m W))
    (himpl : n0 ≤ 1048576 → ∀ (u0 : Value) (W : World), RdT 0 W.heap.size W u0 n0 z0 → Calls Try.prog 39 #[u0] W (IntPost m W))
    : Calls Try.prog 10 #[v0] w (LawPost w) := by
  obtain ⟨va0, vc0, rfl⟩ := hv0.shape
  have hmx0 : n0 ≤ 9223372036854775807 := by obtain ⟨_, _, _, _, he, q1, q2, _⟩ := hv0; simp only [Value.slice.injEq] at he; omega
  have HSZ0 := Lib.hid (fun W : World => szLabelS_any va0 n0 vc0 1048576 W hmx0 (by omega) (by omega))
  by_cases hbig0 : n0 ≤ 1048576
  case neg =>
    have hb1 := Lib.hid hbig0
    clear hspec himpl hv0  hmx0
    go_enter Try.func10, Try.ntmps10
    go_wp2_with fail
    refine (HSZ0.out _).mono ?_
    rintro e w1 ⟨hq, rfl⟩
    rcases hq with ⟨hq1, rfl⟩ | ⟨hq1, rfl⟩
    · clear hq1
      go_wp2
      go_ret
      exact ⟨rfl, Below.refl _ _⟩
    · have := hb1.out; omega
  have HSP := Lib.hid (hspec hbig0)
  have HIM := Lib.hid (himpl hbig0)
  have hx0 : (m != m) = false := by simp
  have A0 := Lib.hid hv0
  have BL := Lib.hid (Below.refl w.heap.size w)
  clear hspec himpl hv0
  go_enter Try.func10, Try.ntmps10
  have hle0 : ¬ ((1048576 : Int) - n0 < 0) := by omega
  go_wp2_with fail
  refine (HSZ0.out _).mono ?_
  rintro e w0 ⟨hq, rfl⟩
  rcases hq with ⟨hq1, rfl⟩ | ⟨hq1, rfl⟩
  · have := hbig0; omega
  clear hq1 HSZ0 hmx0
  go_wp2_with fail
  refine (toT_any _ 0 w.heap.size n0 z0 _ A0.out hbig0 (by omega)).mono ?_
  rintro e w1 ⟨r_1, rfl, ⟨_, _, _, rfl⟩, ow1, bw1⟩
  have sw1 : w.heap.size ≤ w1.heap.size := bw1.size
  have L_2 := Lib.hid (A0.out.same (SameIn.below bw1 (by omega)))
  clear A0
  have O_3 := Lib.hid ow1
  have BL_4 := Lib.hid (BL.out.trans (bw1.mono (by omega)))
  clear BL
  clear ow1 bw1
  go_wp2_with fail
  refine (HSP.out _ _ (O_3.out.rd.mono (Nat.zero_le _) (by omega))).mono ?_
  rintro e w2 ⟨rfl, bw2⟩
  have sw2 : w1.heap.size ≤ w2.heap.size := bw2.size
  have L_5 := Lib.hid (L_2.out.same (SameIn.below bw2 (by omega)))
  clear L_2
  have L_6 := Lib.hid (O_3.out.same (SameIn.below bw2 (by omega)))
  clear O_3
  have BL_7 := Lib.hid (BL_4.out.trans (bw2.mono (by omega)))
  clear BL_4
  clear bw2
  go_wp2_with fail
  refine (toT_any _ 0 w.heap.size n0 z0 _ L_5.out hbig0 (by omega)).mono ?_
  rintro e w3 ⟨r_8, rfl, ⟨_, _, _, rfl⟩, ow3, bw3⟩
  have sw3 : w2.heap.size ≤ w3.heap.size := bw3.size
  have L_9 := Lib.hid (L_5.out.same (SameIn.below bw3 (by omega)))
  clear L_5
  have O_10 := Lib.hid ow3
  have BL_11 := Lib.hid (BL_7.out.trans (bw3.mono (by omega)))
  clear BL_7
  clear ow3 bw3
  go_wp2_with fail
  refine (HIM.out _ _ (O_10.out.rd.mono (Nat.zero_le _) (by omega))).mono ?_
  rintro e w4 ⟨rfl, bw4⟩
  have sw4 : w3.heap.size ≤ w4.heap.size := bw4.size
  have L_12 := Lib.hid (L_9.out.same (SameIn.below bw4 (by omega)))
  clear L_9
  have L_13 := Lib.hid (O_10.out.same (SameIn.below bw4 (by omega)))
  clear O_10
  have BL_14 := Lib.hid (BL_11.out.trans (bw4.mono (by omega)))
  clear BL_11
  clear bw4
  go_wp2_with fail
  refine (toT_any _ 0 w.heap.size n0 z0 _ L_12.out hbig0 (by omega)).mono ?_
  rintro e w5 ⟨r_15, rfl, ⟨_, _, _, rfl⟩, ow5, bw5⟩
  have sw5 : w4.heap.size ≤ w5.heap.size := bw5.size
  have L_16 := Lib.hid (L_12.out.same (SameIn.below bw5 (by omega)))
  clear L_12
  have L_17 := Lib.hid (L_13.out.same (SameIn.below bw5 (by omega)))
  clear L_13
  have O_18 := Lib.hid ow5
  have BL_19 := Lib.hid (BL_14.out.trans (bw5.mono (by omega)))
  clear BL_14
  clear ow5 bw5
  go_wp2_with fail
  refine (eqT_any _ _ _ _ _ _ n0 z0 z0 _ L_17.out.rd O_18.out.rd (fun _ _ => rfl) (by omega) (by omega)).mono ?_
  rintro e w6 ⟨rfl, bw6⟩
  have sw6 : w5.heap.size ≤ w6.heap.size := bw6.size
  have L_20 := Lib.hid (L_16.out.same (SameIn.below bw6 (by omega)))
  clear L_16
  have L_21 := Lib.hid (L_17.out.same (SameIn.below bw6 (by omega)))
  clear L_17
  have L_22 := Lib.hid (O_18.out.same (SameIn.below bw6 (by omega)))
  clear O_18
  have BL_23 := Lib.hid (BL_19.out.trans (bw6.mono (by omega)))
  clear BL_19
  clear bw6
  go_wp2
  go_ret
  exact ⟨rfl, BL_23.out⟩

end Go.Proofs.Ytfhaiaiehgohpaa
