/- The exact law of ProfileRow: its walk, out of the two functions' contracts. -/
import Derived.Test.YtgcebhmenffbjaaPrN
import Derived.Test.YtgcebhmenffbjaaM1
namespace Go.Proofs.Ytgcebhmenffbjaa
open Go.RowKit
set_option linter.unusedVariables false

set_option maxRecDepth 20000 in
set_option maxHeartbeats 4000000 in
theorem law_FnExactProfileRow (v0 : Value) (g0 : G) (a1 : Int) (w : World) (b : Bool) (n : Nat) (z : Nat → Int) (hv0 : RdM 0 w.heap.size w v0 g0)
    (hspec : ∀ (u0 : Value) (W : World) (lo hi : Nat), RdM lo hi W u0 g0 → hi ≤ W.heap.size → Calls Try.prog 40 #[u0, .int .i64 a1] W (LsPost b n z W))
    (himpl : ∀ (u0 : Value) (W : World) (lo hi : Nat), RdM lo hi W u0 g0 → hi ≤ W.heap.size → Calls Try.prog 42 #[u0, .int .i64 a1] W (LgPost b n z W))
    (hn : n ≤ 1048576) :
    Calls Try.prog 13 #[v0, .int .i64 a1] w (LawPost w) := by
  have HSP := Lib.hid hspec
  have HIM := Lib.hid himpl
  have hx : (b != b) = false := by simp
  have A0 := Lib.hid hv0
  have BL := Lib.hid (Below.refl w.heap.size w)
  clear hspec himpl hv0
  go_enter Try.func13, Try.ntmps13
  go_wp2_with fail
  refine (szIntSS_any v0 0 w.heap.size g0 _ 1048576 A0.out (by omega) (by omega)).mono ?_
  rintro e w' ⟨rfl | ⟨l0, l00, l01, rfl, n0, hl0⟩, rfl⟩
  · go_wp2
    go_ret
    exact ⟨rfl, Below.refl _ _⟩
  ·
    have HL0 := Lib.hid hl0
    clear hl0
    go_wp2_with fail
    refine (toIntSS_any v0 0 w.heap.size g0 _ A0.out n0 HL0.out (by omega)).mono ?_
    rintro e w1 ⟨rfl, ow1, bw1⟩
    have sw1 : w.heap.size ≤ w1.heap.size := bw1.size
    have L_1 := Lib.hid (A0.out.same (SameIn.below bw1 (by omega)))
    clear A0
    have O_2 := Lib.hid ow1
    have BL_3 := Lib.hid (BL.out.trans (bw1.mono (by omega)))
    clear BL
    clear ow1 bw1
    go_wp2_with fail
    refine (HSP.out _ _ 0 w1.heap.size (O_2.out.rd.mono (Nat.zero_le _) (by omega)) (Nat.le_refl _)).mono ?_
    rintro e w2 ⟨r_4, rfl, ⟨_, _, _, rfl⟩, ow2, bw2⟩
    have sw2 : w1.heap.size ≤ w2.heap.size := bw2.size
    have L_5 := Lib.hid (L_1.out.same (SameIn.below bw2 (by omega)))
    clear L_1
    have L_6 := Lib.hid (O_2.out.same (SameIn.below bw2 (by omega)))
    clear O_2
    have O_7 := Lib.hid ow2
    have BL_8 := Lib.hid (BL_3.out.trans (bw2.mono (by omega)))
    clear BL_3
    clear ow2 bw2
    go_wp2_with fail
    refine (toIntSS_any v0 0 w.heap.size g0 _ L_5.out n0 HL0.out (by omega)).mono ?_
    rintro e w3 ⟨rfl, ow3, bw3⟩
    have sw3 : w2.heap.size ≤ w3.heap.size := bw3.size
    have L_9 := Lib.hid (L_5.out.same (SameIn.below bw3 (by omega)))
    clear L_5
    have L_10 := Lib.hid (O_7.out.same (SameIn.below bw3 (by omega)))
    clear O_7
    have O_11 := Lib.hid ow3
    have BL_12 := Lib.hid (BL_8.out.trans (bw3.mono (by omega)))
    clear BL_8
    clear ow3 bw3
    go_wp2_with fail
    refine (HIM.out _ _ 0 w3.heap.size (O_11.out.rd.mono (Nat.zero_le _) (by omega)) (Nat.le_refl _)).mono ?_
    rintro e w4 ⟨r_13, rfl, ⟨_, _, _, rfl⟩, ow4, bw4⟩
    have sw4 : w3.heap.size ≤ w4.heap.size := bw4.size
    have L_14 := Lib.hid (L_9.out.same (SameIn.below bw4 (by omega)))
    clear L_9
    have L_15 := Lib.hid (L_10.out.same (SameIn.below bw4 (by omega)))
    clear L_10
    have L_16 := Lib.hid (O_11.out.same (SameIn.below bw4 (by omega)))
    clear O_11
    have O_17 := Lib.hid ow4
    have BL_18 := Lib.hid (BL_12.out.trans (bw4.mono (by omega)))
    clear BL_12
    clear ow4 bw4
    go_wp2_with fail
    refine (eqIntS_any _ _ _ _ _ _ n z z _ O_17.out.rd L_15.out (fun _ _ => rfl)).mono ?_
    intro e w5 hq
    obtain ⟨rfl, bw5⟩ := hq.below
    have sw5 : w4.heap.size ≤ w5.heap.size := bw5.size
    have L_19 := Lib.hid (L_14.out.same (SameIn.below bw5 (by omega)))
    clear L_14
    have L_20 := Lib.hid (L_15.out.same (SameIn.below bw5 (by omega)))
    clear L_15
    have L_21 := Lib.hid (L_16.out.same (SameIn.below bw5 (by omega)))
    clear L_16
    have L_22 := Lib.hid (O_17.out.same (SameIn.below bw5 (by omega)))
    clear O_17
    have BL_23 := Lib.hid (BL_18.out.trans (bw5.mono (by omega)))
    clear BL_18
    clear hq bw5
    go_wp2_with fail
    refine (toIntSS_any v0 0 w.heap.size g0 _ L_19.out n0 HL0.out (by omega)).mono ?_
    rintro e w6 ⟨rfl, ow6, bw6⟩
    have sw6 : w5.heap.size ≤ w6.heap.size := bw6.size
    have L_24 := Lib.hid (L_19.out.same (SameIn.below bw6 (by omega)))
    clear L_19
    have L_25 := Lib.hid (L_20.out.same (SameIn.below bw6 (by omega)))
    clear L_20
    have L_26 := Lib.hid (L_21.out.same (SameIn.below bw6 (by omega)))
    clear L_21
    have L_27 := Lib.hid (L_22.out.same (SameIn.below bw6 (by omega)))
    clear L_22
    have O_28 := Lib.hid ow6
    have BL_29 := Lib.hid (BL_23.out.trans (bw6.mono (by omega)))
    clear BL_23
    clear ow6 bw6
    go_wp2_with fail
    refine (eqIntSS_any _ _ _ _ _ _ g0 _ L_26.out.rd O_28.out.rd).mono ?_
    intro e w7 hq
    obtain ⟨rfl, bw7⟩ := hq.below
    have sw7 : w6.heap.size ≤ w7.heap.size := bw7.size
    have L_30 := Lib.hid (L_24.out.same (SameIn.below bw7 (by omega)))
    clear L_24
    have L_31 := Lib.hid (L_25.out.same (SameIn.below bw7 (by omega)))
    clear L_25
    have L_32 := Lib.hid (L_26.out.same (SameIn.below bw7 (by omega)))
    clear L_26
    have L_33 := Lib.hid (L_27.out.same (SameIn.below bw7 (by omega)))
    clear L_27
    have L_34 := Lib.hid (O_28.out.same (SameIn.below bw7 (by omega)))
    clear O_28
    have BL_35 := Lib.hid (BL_29.out.trans (bw7.mono (by omega)))
    clear BL_29
    clear hq bw7
    go_wp2_with fail
    refine (markIntSS_any _ _ _ g0 1 _ L_32.out (by omega) (by omega) n0 HL0.out).mono ?_
    rintro e w8 ⟨rfl, ow8, cw8, zw8⟩
    have sw8 : w7.heap.size ≤ w8.heap.size := cw8.size
    clear zw8
    have L_36 := Lib.hid (L_30.out.same (cw8.sameIn (by omega) (by omega)))
    clear L_30
    have L_37 := Lib.hid (L_31.out.same (cw8.sameIn (by omega) (by omega)))
    clear L_31
    have L_38 := Lib.hid (L_33.out.same (cw8.sameIn (by omega) (by omega)))
    clear L_33
    have BL_39 := Lib.hid (BL_35.out.trans (cw8.below (by omega) (by omega)))
    clear BL_35
    clear ow8 cw8 L_32
    go_wp2_with fail
    refine (eqIntS_any _ _ _ _ _ _ n z z _ L_38.out.rd L_37.out (fun _ _ => rfl)).mono ?_
    intro e w9 hq
    obtain ⟨rfl, bw9⟩ := hq.below
    have sw9 : w8.heap.size ≤ w9.heap.size := bw9.size
    have L_40 := Lib.hid (L_36.out.same (SameIn.below bw9 (by omega)))
    clear L_36
    have L_41 := Lib.hid (L_37.out.same (SameIn.below bw9 (by omega)))
    clear L_37
    have L_42 := Lib.hid (L_38.out.same (SameIn.below bw9 (by omega)))
    clear L_38
    have BL_43 := Lib.hid (BL_39.out.trans (bw9.mono (by omega)))
    clear BL_39
    clear hq bw9
    go_wp2_with fail
    refine (markL_any _ _ _ n z 1 _ L_42.out (by omega) (by omega) hn).mono ?_
    rintro e w10 ⟨rfl, ow10, cw10, zw10⟩
    have sw10 : w9.heap.size ≤ w10.heap.size := cw10.size
    clear zw10
    have L_44 := Lib.hid (L_40.out.same (cw10.sameIn (by omega) (by omega)))
    clear L_40
    have L_45 := Lib.hid (L_41.out.same (cw10.sameIn (by omega) (by omega)))
    clear L_41
    have BL_46 := Lib.hid (BL_43.out.trans (cw10.below (by omega) (by omega)))
    clear BL_43
    have M_47 := Lib.hid ow10
    clear ow10 cw10 L_42
    go_wp2_with fail
    refine (heldL_any _ _ _ n _ M_47.out hn).mono ?_
    rintro e w' ⟨rfl, rfl⟩
    go_wp2_with fail
    refine (toIntSS_any v0 0 w.heap.size g0 _ L_44.out n0 HL0.out (by omega)).mono ?_
    rintro e w11 ⟨rfl, ow11, bw11⟩
    have sw11 : w10.heap.size ≤ w11.heap.size := bw11.size
    have L_48 := Lib.hid (L_44.out.same (SameIn.below bw11 (by omega)))
    clear L_44
    have L_49 := Lib.hid (L_45.out.same (SameIn.below bw11 (by omega)))
    clear L_45
    have L_50 := Lib.hid (M_47.out.same (SameIn.below bw11 (by omega)))
    clear M_47
    have O_51 := Lib.hid ow11
    have BL_52 := Lib.hid (BL_46.out.trans (bw11.mono (by omega)))
    clear BL_46
    clear ow11 bw11
    go_wp2_with fail
    refine (HIM.out _ _ 0 w11.heap.size (O_51.out.rd.mono (Nat.zero_le _) (by omega)) (Nat.le_refl _)).mono ?_
    rintro e w12 ⟨r_53, rfl, ⟨_, _, _, rfl⟩, ow12, bw12⟩
    have sw12 : w11.heap.size ≤ w12.heap.size := bw12.size
    have L_54 := Lib.hid (L_48.out.same (SameIn.below bw12 (by omega)))
    clear L_48
    have L_55 := Lib.hid (L_49.out.same (SameIn.below bw12 (by omega)))
    clear L_49
    have L_56 := Lib.hid (L_50.out.same (SameIn.below bw12 (by omega)))
    clear L_50
    have L_57 := Lib.hid (O_51.out.same (SameIn.below bw12 (by omega)))
    clear O_51
    have O_58 := Lib.hid ow12
    have BL_59 := Lib.hid (BL_52.out.trans (bw12.mono (by omega)))
    clear BL_52
    clear ow12 bw12
    go_wp2_with fail
    refine (eqIntS_any _ _ _ _ _ _ n z z _ O_58.out.rd L_55.out (fun _ _ => rfl)).mono ?_
    intro e w13 hq
    obtain ⟨rfl, bw13⟩ := hq.below
    have sw13 : w12.heap.size ≤ w13.heap.size := bw13.size
    have L_60 := Lib.hid (L_54.out.same (SameIn.below bw13 (by omega)))
    clear L_54
    have L_61 := Lib.hid (L_55.out.same (SameIn.below bw13 (by omega)))
    clear L_55
    have L_62 := Lib.hid (L_56.out.same (SameIn.below bw13 (by omega)))
    clear L_56
    have L_63 := Lib.hid (L_57.out.same (SameIn.below bw13 (by omega)))
    clear L_57
    have L_64 := Lib.hid (O_58.out.same (SameIn.below bw13 (by omega)))
    clear O_58
    have BL_65 := Lib.hid (BL_59.out.trans (bw13.mono (by omega)))
    clear BL_59
    clear hq bw13
    go_wp2_with fail
    refine (heldL_any _ _ _ n _ L_62.out hn).mono ?_
    rintro e w' ⟨rfl, rfl⟩
    go_wp2
    go_ret
    exact ⟨rfl, BL_65.out⟩

end Go.Proofs.Ytgcebhmenffbjaa
