/- The law FnGridMirror of the promises: its walk. -/
import Derived.Test.YtekekbepobafdabPBase
namespace Go.Proofs.Ytekekbepobafdab
open Go.RowKit
set_option linter.unusedVariables false

set_option maxHeartbeats 4000000 in
set_option maxRecDepth 100000 in
theorem law_FnGridMirror (v : Value) (n : Nat) (w : World) (hv : RdB w.heap.size w v n) : Calls Try.prog 4 #[v] w (LawPost w) := by
  have HD := Lib.hid (draw_DrawGridMirror v n w.heap.size w hv (Nat.le_refl _))
  obtain ⟨ao, cap, cb, off, Z, rfl, hc1, hc2, _⟩ := hv
  by_cases hn : 1048576 < n
  · have hn' : (1048576 : Int) < n := by omega
    go_enter Try.func4, Try.ntmps4
    go_wp2
    go_ret
    exact ⟨rfl, Below.refl _ _⟩
  · have hn' : ¬ (1048576 : Int) < n := by omega
    go_enter Try.func4, Try.ntmps4
    go_wp2_with fail
    refine HD.out.mono ?_
    rintro e w1 ⟨vg, g, rfl, _, hm, hgn, hgl, bw1⟩
    obtain ⟨bg, og, cg, rfl⟩ := hm.shape (by omega)
    have R_g := Lib.hid hm
    have HGL := Lib.hid hgl
    obtain ⟨hgn1, hgn5⟩ := hgn
    clear hm hgl HD
    have sw1 : w.heap.size ≤ w1.heap.size := bw1.size
    have BL := Lib.hid bw1
    clear bw1
    by_cases hval : g.Valid
    case neg =>
      have HVN := Lib.hid hval
      clear hval
      go_wp2_with fail
      refine (implGridMirror_no _ 0 w1.heap.size g _ (R_g.out.mono (Nat.zero_le _) (by omega)) (Nat.le_refl _) HVN.out).mono ?_
      rintro e w2 ⟨r_1, rfl, ⟨_, _, _, rfl⟩, ow2, bw2⟩
      have Nw2 := Lib.hid (ow2.rd)
      clear ow2
      have sw2 : w1.heap.size ≤ w2.heap.size := bw2.size
      have L_2 := Lib.hid (R_g.out.same (SameIn.below bw2 (by omega)))
      clear R_g
      have BL_3 := Lib.hid (BL.out.trans (bw2.mono (by omega)))
      clear BL bw2
      go_wp2_with fail
      refine (specGridMirror_no _ 0 w2.heap.size g _ (L_2.out.mono (Nat.zero_le _) (by omega)) (Nat.le_refl _) HVN.out).mono ?_
      rintro e w3 ⟨r_4, rfl, ⟨_, _, _, rfl⟩, ow3, bw3⟩
      have Nw3 := Lib.hid (ow3)
      clear ow3
      have sw3 : w2.heap.size ≤ w3.heap.size := bw3.size
      have L_5 := Lib.hid (L_2.out.same (SameIn.below bw3 (by omega)))
      clear L_2
      have L_6 := Lib.hid (Nw2.out.same (SameIn.below bw3 (by omega)))
      clear Nw2
      have BL_7 := Lib.hid (BL_3.out.trans (bw3.mono (by omega)))
      clear BL_3 bw3
      go_wp2_with fail
      refine (sameGrid_any _ _ _ _ _ _ (G0) _ (L_6.out) (Nw3.out)).mono ?_
      intro e w4 hq
      obtain ⟨rfl, bw4⟩ := hq.below
      clear hq
      have sw4 : w3.heap.size ≤ w4.heap.size := bw4.size
      have L_8 := Lib.hid (L_5.out.same (SameIn.below bw4 (by omega)))
      clear L_5
      have L_9 := Lib.hid (L_6.out.same (SameIn.below bw4 (by omega)))
      clear L_6
      have L_10 := Lib.hid (Nw3.out.same (SameIn.below bw4 (by omega)))
      clear Nw3
      have BL_11 := Lib.hid (BL_7.out.trans (bw4.mono (by omega)))
      clear BL_7 bw4
      go_wp2_with fail
      refine (sameGrid_any _ _ _ _ _ _ (G0) _ (L_9.out) (L_10.out)).mono ?_
      intro e w5 hq
      obtain ⟨rfl, bw5⟩ := hq.below
      clear hq
      have sw5 : w4.heap.size ≤ w5.heap.size := bw5.size
      have L_12 := Lib.hid (L_8.out.same (SameIn.below bw5 (by omega)))
      clear L_8
      have L_13 := Lib.hid (L_9.out.same (SameIn.below bw5 (by omega)))
      clear L_9
      have L_14 := Lib.hid (L_10.out.same (SameIn.below bw5 (by omega)))
      clear L_10
      have BL_15 := Lib.hid (BL_11.out.trans (bw5.mono (by omega)))
      clear BL_11 bw5
      go_wp2
      go_ret
      exact ⟨rfl, BL_15.out⟩
    case pos =>
      have HV := Lib.hid hval
      have hL1 : 0 < g.len 0 := hval.2.1.1
      clear hval
      go_wp2_with fail
      refine (implGridMirror_yes _ 0 w1.heap.size (g) _ (R_g.out.mono (Nat.zero_le _) (by omega)) (Nat.le_refl _) HV.out).mono ?_
      rintro e w2 ⟨r_1, rfl, ⟨_, _, _, rfl⟩, ow2, bw2⟩
      have Nw2 := Lib.hid (ow2.rd)
      clear ow2
      have sw2 : w1.heap.size ≤ w2.heap.size := bw2.size
      have L_2 := Lib.hid (R_g.out.same (SameIn.below bw2 (by omega)))
      clear R_g
      have BL_3 := Lib.hid (BL.out.trans (bw2.mono (by omega)))
      clear BL bw2
      go_wp2_with fail
      refine (specGridMirror_yes _ 0 w2.heap.size g _ (L_2.out.mono (Nat.zero_le _) (by omega)) (Nat.le_refl _) HV.out).mono ?_
      rintro e w3 ⟨r_4, rfl, ⟨_, _, _, rfl⟩, ow3, bw3⟩
      have Nw3 := Lib.hid (ow3)
      clear ow3
      have sw3 : w2.heap.size ≤ w3.heap.size := bw3.size
      have L_5 := Lib.hid (L_2.out.same (SameIn.below bw3 (by omega)))
      clear L_2
      have L_6 := Lib.hid (Nw2.out.same (SameIn.below bw3 (by omega)))
      clear Nw2
      have BL_7 := Lib.hid (BL_3.out.trans (bw3.mono (by omega)))
      clear BL_3 bw3
      go_wp2_with fail
      refine (sameGrid_any _ _ _ _ _ _ (mirrorG g) _ (L_6.out) (Nw3.out)).mono ?_
      intro e w4 hq
      obtain ⟨rfl, bw4⟩ := hq.below
      clear hq
      have sw4 : w3.heap.size ≤ w4.heap.size := bw4.size
      have L_8 := Lib.hid (L_5.out.same (SameIn.below bw4 (by omega)))
      clear L_5
      have L_9 := Lib.hid (L_6.out.same (SameIn.below bw4 (by omega)))
      clear L_6
      have L_10 := Lib.hid (Nw3.out.same (SameIn.below bw4 (by omega)))
      clear Nw3
      have BL_11 := Lib.hid (BL_7.out.trans (bw4.mono (by omega)))
      clear BL_7 bw4
      go_wp2_with fail
      refine (implGridMirror_yes _ 0 w4.heap.size (mirrorG g) _ (L_9.out.mono (Nat.zero_le _) (by omega)) (Nat.le_refl _) (mirror_valid HV.out)).mono ?_
      rintro e w5 ⟨r_12, rfl, ⟨_, _, _, rfl⟩, ow5, bw5⟩
      have Nw5 := Lib.hid (ow5.rd)
      clear ow5
      have sw5 : w4.heap.size ≤ w5.heap.size := bw5.size
      have L_13 := Lib.hid (L_8.out.same (SameIn.below bw5 (by omega)))
      clear L_8
      have L_14 := Lib.hid (L_9.out.same (SameIn.below bw5 (by omega)))
      clear L_9
      have BL_15 := Lib.hid (BL_11.out.trans (bw5.mono (by omega)))
      clear BL_11 bw5
      go_wp2_with fail
      refine (implGridTurn_yes _ 0 w5.heap.size (g) _ (L_13.out.mono (Nat.zero_le _) (by omega)) (Nat.le_refl _) HV.out).mono ?_
      rintro e w6 ⟨r_16, rfl, ⟨_, _, _, rfl⟩, ow6, bw6⟩
      have Nw6 := Lib.hid (ow6.rd)
      clear ow6
      have sw6 : w5.heap.size ≤ w6.heap.size := bw6.size
      have L_17 := Lib.hid (L_13.out.same (SameIn.below bw6 (by omega)))
      clear L_13
      have L_18 := Lib.hid (L_14.out.same (SameIn.below bw6 (by omega)))
      clear L_14
      have L_19 := Lib.hid (Nw5.out.same (SameIn.below bw6 (by omega)))
      clear Nw5
      have BL_20 := Lib.hid (BL_15.out.trans (bw6.mono (by omega)))
      clear BL_15 bw6
      go_wp2_with fail
      refine (implGridMirror_yes _ 0 w6.heap.size (turnG g) _ (Nw6.out.mono (Nat.zero_le _) (by omega)) (Nat.le_refl _) (turn_valid HV.out)).mono ?_
      rintro e w7 ⟨r_21, rfl, ⟨_, _, _, rfl⟩, ow7, bw7⟩
      have Nw7 := Lib.hid (ow7.rd)
      clear ow7
      have sw7 : w6.heap.size ≤ w7.heap.size := bw7.size
      have L_22 := Lib.hid (L_17.out.same (SameIn.below bw7 (by omega)))
      clear L_17
      have L_23 := Lib.hid (L_18.out.same (SameIn.below bw7 (by omega)))
      clear L_18
      have L_24 := Lib.hid (L_19.out.same (SameIn.below bw7 (by omega)))
      clear L_19
      have L_25 := Lib.hid (Nw6.out.same (SameIn.below bw7 (by omega)))
      clear Nw6
      have BL_26 := Lib.hid (BL_20.out.trans (bw7.mono (by omega)))
      clear BL_20 bw7
      go_wp2
      refine wp_loop_rounds 4 ?_
      rw [rounds_succ]
      go_wp2_with fail
      refine (implGridTurn_yes _ 0 w7.heap.size (mirrorG g) _ (L_23.out.mono (Nat.zero_le _) (by omega)) (Nat.le_refl _) (mirror_valid HV.out)).mono ?_
      rintro e w8 ⟨r_27, rfl, ⟨_, _, _, rfl⟩, ow8, bw8⟩
      have Nw8 := Lib.hid (ow8.rd)
      clear ow8
      have sw8 : w7.heap.size ≤ w8.heap.size := bw8.size
      have L_28 := Lib.hid (L_22.out.same (SameIn.below bw8 (by omega)))
      clear L_22
      have L_29 := Lib.hid (L_23.out.same (SameIn.below bw8 (by omega)))
      clear L_23
      have L_30 := Lib.hid (L_24.out.same (SameIn.below bw8 (by omega)))
      clear L_24
      have L_31 := Lib.hid (Nw7.out.same (SameIn.below bw8 (by omega)))
      clear Nw7
      have BL_32 := Lib.hid (BL_26.out.trans (bw8.mono (by omega)))
      clear BL_26 bw8
      go_wp2
      rw [rounds_succ]
      go_wp2_with fail
      refine (implGridTurn_yes _ 0 w8.heap.size (turnG (mirrorG g)) _ (Nw8.out.mono (Nat.zero_le _) (by omega)) (Nat.le_refl _) (turn_valid (mirror_valid HV.out))).mono ?_
      rintro e w9 ⟨r_33, rfl, ⟨_, _, _, rfl⟩, ow9, bw9⟩
      have Nw9 := Lib.hid (ow9.rd)
      clear ow9
      have sw9 : w8.heap.size ≤ w9.heap.size := bw9.size
      have L_34 := Lib.hid (L_28.out.same (SameIn.below bw9 (by omega)))
      clear L_28
      have L_35 := Lib.hid (L_29.out.same (SameIn.below bw9 (by omega)))
      clear L_29
      have L_36 := Lib.hid (L_30.out.same (SameIn.below bw9 (by omega)))
      clear L_30
      have L_37 := Lib.hid (L_31.out.same (SameIn.below bw9 (by omega)))
      clear L_31
      have L_38 := Lib.hid (Nw8.out.same (SameIn.below bw9 (by omega)))
      clear Nw8
      have BL_39 := Lib.hid (BL_32.out.trans (bw9.mono (by omega)))
      clear BL_32 bw9
      go_wp2
      rw [rounds_succ]
      go_wp2_with fail
      refine (implGridTurn_yes _ 0 w9.heap.size (turnG (turnG (mirrorG g))) _ (Nw9.out.mono (Nat.zero_le _) (by omega)) (Nat.le_refl _) (turn_valid (turn_valid (mirror_valid HV.out)))).mono ?_
      rintro e w10 ⟨r_40, rfl, ⟨_, _, _, rfl⟩, ow10, bw10⟩
      have Nw10 := Lib.hid (ow10.rd)
      clear ow10
      have sw10 : w9.heap.size ≤ w10.heap.size := bw10.size
      have L_41 := Lib.hid (L_34.out.same (SameIn.below bw10 (by omega)))
      clear L_34
      have L_42 := Lib.hid (L_35.out.same (SameIn.below bw10 (by omega)))
      clear L_35
      have L_43 := Lib.hid (L_36.out.same (SameIn.below bw10 (by omega)))
      clear L_36
      have L_44 := Lib.hid (L_37.out.same (SameIn.below bw10 (by omega)))
      clear L_37
      have L_45 := Lib.hid (Nw9.out.same (SameIn.below bw10 (by omega)))
      clear Nw9
      have BL_46 := Lib.hid (BL_39.out.trans (bw10.mono (by omega)))
      clear BL_39 bw10
      go_wp2
      rw [rounds_succ]
      go_wp2_with fail
      refine (sameGrid_any _ _ _ _ _ _ (g) _ (L_43.out.congr (mirror2 HV.out)) (L_41.out)).mono ?_
      intro e w11 hq
      obtain ⟨rfl, bw11⟩ := hq.below
      clear hq
      have sw11 : w10.heap.size ≤ w11.heap.size := bw11.size
      have L_47 := Lib.hid (L_41.out.same (SameIn.below bw11 (by omega)))
      clear L_41
      have L_48 := Lib.hid (L_42.out.same (SameIn.below bw11 (by omega)))
      clear L_42
      have L_49 := Lib.hid (L_43.out.same (SameIn.below bw11 (by omega)))
      clear L_43
      have L_50 := Lib.hid (L_44.out.same (SameIn.below bw11 (by omega)))
      clear L_44
      have L_51 := Lib.hid (Nw10.out.same (SameIn.below bw11 (by omega)))
      clear Nw10
      have BL_52 := Lib.hid (BL_46.out.trans (bw11.mono (by omega)))
      clear BL_46 bw11
      go_wp2_with fail
      refine (sameGrid_any _ _ _ _ _ _ (turnG (turnG (turnG (mirrorG g)))) _ (L_50.out.congr (mirror_turn HV.out)) (L_51.out)).mono ?_
      intro e w12 hq
      obtain ⟨rfl, bw12⟩ := hq.below
      clear hq
      have sw12 : w11.heap.size ≤ w12.heap.size := bw12.size
      have L_53 := Lib.hid (L_47.out.same (SameIn.below bw12 (by omega)))
      clear L_47
      have L_54 := Lib.hid (L_48.out.same (SameIn.below bw12 (by omega)))
      clear L_48
      have L_55 := Lib.hid (L_49.out.same (SameIn.below bw12 (by omega)))
      clear L_49
      have L_56 := Lib.hid (L_50.out.same (SameIn.below bw12 (by omega)))
      clear L_50
      have L_57 := Lib.hid (L_51.out.same (SameIn.below bw12 (by omega)))
      clear L_51
      have BL_58 := Lib.hid (BL_52.out.trans (bw12.mono (by omega)))
      clear BL_52 bw12
      go_wp2
      go_ret
      exact ⟨rfl, BL_58.out⟩
end Go.Proofs.Ytekekbepobafdab

