/- The law FnFlip of the promises: its walk. -/
import Derived.Test.YthelaffjpmcdbaaSwF
namespace Go.Proofs.Ythelaffjpmcdbaa
open Go.RowKit
set_option linter.unusedVariables false
set_option linter.unusedSimpArgs false

set_option maxHeartbeats 4000000 in
set_option maxRecDepth 100000 in
theorem law_FnFlip (v : Value) (n : Nat) (w : World) (hv : RdB w.heap.size w v n) : Calls Try.prog 9 #[v] w (LawPost w) := by
  have HD := Lib.hid (draw_DrawLabelsFlip v n w.heap.size w hv (Nat.le_refl _))
  obtain ⟨ao, cap, cb, off, Z, rfl, hc1, hc2, _⟩ := hv
  by_cases hn : 1048576 < n
  · have hn' : (1048576 : Int) < n := by omega
    go_enter Try.func9, Try.ntmps9
    go_wp2
    go_ret
    exact ⟨rfl, Below.refl _ _⟩
  · have hn' : ¬ (1048576 : Int) < n := by omega
    go_enter Try.func9, Try.ntmps9
    go_wp2_with fail
    refine HD.out.mono ?_
    rintro e w1 ⟨b, cp, n0, Z0, rfl, hm, hn7, hz7, bw1⟩
    have R_p := Lib.hid hm
    clear hm HD
    have sw1 : w.heap.size ≤ w1.heap.size := bw1.size
    have BL := Lib.hid bw1
    clear bw1
    by_cases hok : LsOk n0 Z0
    case neg =>
      go_wp2_with fail
      refine (implFlip_no _ 0 w1.heap.size n0 Z0 _ (R_p.out.mono (Nat.zero_le _) (by omega)) (Nat.le_refl _) (by omega) hok).mono ?_
      rintro e w2 ⟨_, rfl, ⟨_, _, _, rfl⟩, ow2, bw2⟩
      have Nw2 := Lib.hid (ow2.rd)
      clear ow2
      have sw2 : w1.heap.size ≤ w2.heap.size := bw2.size
      have L_1 := Lib.hid (R_p.out.same (SameIn.below bw2 (by omega)))
      clear R_p
      have BL_2 := Lib.hid (BL.out.trans (bw2.mono (by omega)))
      clear BL bw2
      go_wp2_with fail
      refine (specFlip_no _ 0 w2.heap.size n0 Z0 _ (L_1.out.mono (Nat.zero_le _) (by omega)) (Nat.le_refl _) (by omega) hok).mono ?_
      rintro e w3 ⟨_, rfl, ⟨_, _, _, rfl⟩, ow3, bw3⟩
      have Nw3 := Lib.hid (ow3)
      clear ow3
      have sw3 : w2.heap.size ≤ w3.heap.size := bw3.size
      have L_3 := Lib.hid (L_1.out.same (SameIn.below bw3 (by omega)))
      clear L_1
      have L_4 := Lib.hid (Nw2.out.same (SameIn.below bw3 (by omega)))
      clear Nw2
      have BL_5 := Lib.hid (BL_2.out.trans (bw3.mono (by omega)))
      clear BL_2 bw3
      go_wp2_with fail
      refine (sameLabels_any _ _ _ _ _ _ 0 _ _ _ L_4.out Nw3.out (fun _ _ => rfl) (by omega)).mono ?_
      intro e w4 hq
      obtain ⟨rfl, bw4⟩ := hq.below
      clear hq
      have sw4 : w3.heap.size ≤ w4.heap.size := bw4.size
      have L_6 := Lib.hid (L_3.out.same (SameIn.below bw4 (by omega)))
      clear L_3
      have L_7 := Lib.hid (L_4.out.same (SameIn.below bw4 (by omega)))
      clear L_4
      have L_8 := Lib.hid (Nw3.out.same (SameIn.below bw4 (by omega)))
      clear Nw3
      have BL_9 := Lib.hid (BL_5.out.trans (bw4.mono (by omega)))
      clear BL_5 bw4
      go_wp2_with fail
      refine (sameLabels_any _ _ _ _ _ _ 0 _ _ _ L_7.out L_8.out (fun _ _ => rfl) (by omega)).mono ?_
      intro e w5 hq
      obtain ⟨rfl, bw5⟩ := hq.below
      clear hq
      have sw5 : w4.heap.size ≤ w5.heap.size := bw5.size
      have L_10 := Lib.hid (L_6.out.same (SameIn.below bw5 (by omega)))
      clear L_6
      have L_11 := Lib.hid (L_7.out.same (SameIn.below bw5 (by omega)))
      clear L_7
      have L_12 := Lib.hid (L_8.out.same (SameIn.below bw5 (by omega)))
      clear L_8
      have BL_13 := Lib.hid (BL_9.out.trans (bw5.mono (by omega)))
      clear BL_9 bw5
      go_wp2
      go_ret
      exact ⟨rfl, BL_13.out⟩
    case pos =>
      have hn6 := hok.1
      have hok2 := fl_label hok
      obtain ⟨hbo, _⟩ := bsG_best hok
      obtain ⟨hbo2, _⟩ := bsG_best hok2
      have hfo := fl_set hbo
      have HI := Lib.hid (fun (W : World) (hi' : Nat) (v : Value) (h : RdT 0 hi' W v n0 Z0) (hh : hi' ≤ W.heap.size) => implFlip_yes v 0 hi' n0 Z0 W h hh hok)
      have HS := Lib.hid (fun (W : World) (hi' : Nat) (v : Value) (h : RdT 0 hi' W v n0 Z0) (hh : hi' ≤ W.heap.size) => specFlip_yes v 0 hi' n0 Z0 W h hh hok)
      have HI2 := Lib.hid (fun (W : World) (hi' : Nat) (v : Value) (h : RdT 0 hi' W v n0 (flZ Z0)) (hh : hi' ≤ W.heap.size) => implFlip_yes v 0 hi' n0 (flZ Z0) W h hh hok2)
      have HBE := Lib.hid (fun (W : World) (hi' : Nat) (v : Value) (h : RdT 0 hi' W v n0 Z0) (hh : hi' ≤ W.heap.size) => implBest_yes v hi' n0 Z0 W h hh hok)
      have HBF := Lib.hid (fun (W : World) (hi' : Nat) (v : Value) (h : RdT 0 hi' W v n0 (flZ Z0)) (hh : hi' ≤ W.heap.size) => implBest_yes v hi' n0 (flZ Z0) W h hh hok2)
      have HSF := Lib.hid (fun (W : World) (lo hi' : Nat) (v : Value) (h : RdI lo hi' W v n0 (bsG n0 Z0)) (hh : hi' ≤ W.heap.size) => implSf_at v lo hi' n0 (bsG n0 Z0) W h hh (by omega) (st_range hbo))
      obtain ⟨m, em⟩ : ∃ m, ct Z0 n0 0 (mpK Z0 n0) = m := ⟨_, rfl⟩
      have HM1 := Lib.hid (fun (W : World) (hi' : Nat) (v : Value) (h : RdT 0 hi' W v n0 Z0) (hh : hi' ≤ W.heap.size) => implMany_yes v hi' n0 Z0 m em W h hh (by omega) hok)
      have HM2 := Lib.hid (fun (W : World) (hi' : Nat) (v : Value) (h : RdT 0 hi' W v n0 (flZ Z0)) (hh : hi' ≤ W.heap.size) => implMany_yes v hi' n0 (flZ Z0) m (by rw [fl_ct hok n0 0 _ _ (by omega) (flM_start hok), em]) W h hh (by omega) hok2)
      have HO1 := Lib.hid (fun (W : World) (hi' : Nat) (v : Value) (h : RdT 0 hi' W v n0 Z0) (hh : hi' ≤ W.heap.size) => implMost_yes v hi' n0 Z0 W h hh hok)
      have HO2 := Lib.hid (fun (W : World) (hi' : Nat) (v : Value) (h : RdT 0 hi' W v n0 (flZ Z0)) (hh : hi' ≤ W.heap.size) => by
        have := implMost_yes v hi' n0 (flZ Z0) W h hh hok2
        rw [fl_bst hok false n0 0 _ _ (by omega) (flM_start hok)] at this
        exact this)
      have HW1 := Lib.hid (fun (W : World) (hi' : Nat) (v v2 : Value) (lo2 hi2 : Nat) (h : RdT 0 hi' W v n0 (flZ Z0)) (hh : hi' ≤ W.heap.size) (h2 : RdI lo2 hi2 W v2 n0 (fun k => flI (bsG n0 Z0 k))) (hh2 : hi2 ≤ W.heap.size) => by
        have := implWt_yes v hi' n0 (flZ Z0) v2 lo2 hi2 (fun k => flI (bsG n0 Z0 k)) W h hh hfo h2 hh2
        rw [fl_best hok] at this
        exact this)
      have HW2 := Lib.hid (fun (W : World) (hi' : Nat) (v v2 : Value) (lo2 hi2 : Nat) (h : RdT 0 hi' W v n0 (flZ Z0)) (hh : hi' ≤ W.heap.size) (h2 : RdI lo2 hi2 W v2 n0 (bsG n0 (flZ Z0))) (hh2 : hi2 ≤ W.heap.size) => implWt_yes v hi' n0 (flZ Z0) v2 lo2 hi2 (bsG n0 (flZ Z0)) W h hh hbo2 h2 hh2)
      obtain ⟨T, eT⟩ : ∃ T, wtK (flZ Z0) (bsG n0 (flZ Z0)) n0 = T := ⟨_, rfl⟩
      obtain ⟨O, eO⟩ : ∃ T, bst Z0 false n0 0 (mpK Z0 n0) = T := ⟨_, rfl⟩
      simp only [eT, eO] at HW1 HW2 HO1 HO2
      have hmm : ((m : Int) == (m : Int)) = true := by simp
      have hOO : (O == O) = true := by simp
      have hTT : (T == T) = true := by simp
      clear hok hok2 hbo hbo2 hfo eT eO em
      go_wp2_with fail
      refine (HI.out _ w1.heap.size _ (R_p.out.mono (Nat.zero_le _) (by omega)) (Nat.le_refl _)).mono ?_
      rintro e w2 ⟨_, rfl, ⟨_, _, _, rfl⟩, ow2, bw2⟩
      have Nw2 := Lib.hid (ow2.rd)
      clear ow2
      have sw2 : w1.heap.size ≤ w2.heap.size := bw2.size
      have L_1 := Lib.hid (R_p.out.same (SameIn.below bw2 (by omega)))
      clear R_p
      have BL_2 := Lib.hid (BL.out.trans (bw2.mono (by omega)))
      clear BL bw2
      go_wp2_with fail
      refine (HS.out _ w2.heap.size _ (L_1.out.mono (Nat.zero_le _) (by omega)) (Nat.le_refl _)).mono ?_
      rintro e w3 ⟨_, rfl, ⟨_, _, _, rfl⟩, ow3, bw3⟩
      have Nw3 := Lib.hid (ow3)
      clear ow3
      have sw3 : w2.heap.size ≤ w3.heap.size := bw3.size
      have L_3 := Lib.hid (L_1.out.same (SameIn.below bw3 (by omega)))
      clear L_1
      have L_4 := Lib.hid (Nw2.out.same (SameIn.below bw3 (by omega)))
      clear Nw2
      have BL_5 := Lib.hid (BL_2.out.trans (bw3.mono (by omega)))
      clear BL_2 bw3
      go_wp2_with fail
      refine (sameLabels_any _ _ _ _ _ _ n0 _ _ _ L_4.out Nw3.out (fun _ _ => rfl) (by omega)).mono ?_
      intro e w4 hq
      obtain ⟨rfl, bw4⟩ := hq.below
      clear hq
      have sw4 : w3.heap.size ≤ w4.heap.size := bw4.size
      have L_6 := Lib.hid (L_3.out.same (SameIn.below bw4 (by omega)))
      clear L_3
      have L_7 := Lib.hid (L_4.out.same (SameIn.below bw4 (by omega)))
      clear L_4
      have L_8 := Lib.hid (Nw3.out.same (SameIn.below bw4 (by omega)))
      clear Nw3
      have BL_9 := Lib.hid (BL_5.out.trans (bw4.mono (by omega)))
      clear BL_5 bw4
      go_wp2_with fail
      refine (HI2.out _ w4.heap.size _ (L_7.out.mono (Nat.zero_le _) (by omega)) (Nat.le_refl _)).mono ?_
      rintro e w5 ⟨_, rfl, ⟨_, _, _, rfl⟩, ow5, bw5⟩
      have Nw5 := Lib.hid (ow5.rd)
      clear ow5
      have sw5 : w4.heap.size ≤ w5.heap.size := bw5.size
      have L_10 := Lib.hid (L_6.out.same (SameIn.below bw5 (by omega)))
      clear L_6
      have L_11 := Lib.hid (L_7.out.same (SameIn.below bw5 (by omega)))
      clear L_7
      have BL_12 := Lib.hid (BL_9.out.trans (bw5.mono (by omega)))
      clear BL_9 bw5
      go_wp2_with fail
      refine (HBE.out _ w5.heap.size _ (L_10.out.mono (Nat.zero_le _) (by omega)) (Nat.le_refl _)).mono ?_
      rintro e w6 ⟨_, rfl, ⟨_, _, _, rfl⟩, ow6, bw6⟩
      have Nw6 := Lib.hid (ow6.rd)
      clear ow6
      have sw6 : w5.heap.size ≤ w6.heap.size := bw6.size
      have L_13 := Lib.hid (L_10.out.same (SameIn.below bw6 (by omega)))
      clear L_10
      have L_14 := Lib.hid (L_11.out.same (SameIn.below bw6 (by omega)))
      clear L_11
      have L_15 := Lib.hid (Nw5.out.same (SameIn.below bw6 (by omega)))
      clear Nw5
      have BL_16 := Lib.hid (BL_12.out.trans (bw6.mono (by omega)))
      clear BL_12 bw6
      go_wp2_with fail
      refine (HSF.out _ 0 w6.heap.size _ (Nw6.out.mono (Nat.zero_le _) (by omega)) (Nat.le_refl _)).mono ?_
      rintro e w7 ⟨_, rfl, ⟨_, _, _, rfl⟩, ow7, bw7⟩
      have Nw7 := Lib.hid (ow7)
      clear ow7
      have sw7 : w6.heap.size ≤ w7.heap.size := bw7.size
      have L_17 := Lib.hid (L_13.out.same (SameIn.below bw7 (by omega)))
      clear L_13
      have L_18 := Lib.hid (L_14.out.same (SameIn.below bw7 (by omega)))
      clear L_14
      have L_19 := Lib.hid (L_15.out.same (SameIn.below bw7 (by omega)))
      clear L_15
      have L_20 := Lib.hid (Nw6.out.same (SameIn.below bw7 (by omega)))
      clear Nw6
      have BL_21 := Lib.hid (BL_16.out.trans (bw7.mono (by omega)))
      clear BL_16 bw7
      go_wp2_with fail
      refine (HBF.out _ w7.heap.size _ (L_18.out.mono (Nat.zero_le _) (by omega)) (Nat.le_refl _)).mono ?_
      rintro e w8 ⟨_, rfl, ⟨_, _, _, rfl⟩, ow8, bw8⟩
      have Nw8 := Lib.hid (ow8.rd)
      clear ow8
      have sw8 : w7.heap.size ≤ w8.heap.size := bw8.size
      have L_22 := Lib.hid (L_17.out.same (SameIn.below bw8 (by omega)))
      clear L_17
      have L_23 := Lib.hid (L_18.out.same (SameIn.below bw8 (by omega)))
      clear L_18
      have L_24 := Lib.hid (L_19.out.same (SameIn.below bw8 (by omega)))
      clear L_19
      have L_25 := Lib.hid (L_20.out.same (SameIn.below bw8 (by omega)))
      clear L_20
      have L_26 := Lib.hid (Nw7.out.same (SameIn.below bw8 (by omega)))
      clear Nw7
      have BL_27 := Lib.hid (BL_21.out.trans (bw8.mono (by omega)))
      clear BL_21 bw8
      go_wp2_with fail
      refine (sameLabels_any _ _ _ _ _ _ n0 _ _ _ L_24.out L_22.out (fun j _ => flZ_flZ Z0 j) (by omega)).mono ?_
      intro e w9 hq
      obtain ⟨rfl, bw9⟩ := hq.below
      clear hq
      have sw9 : w8.heap.size ≤ w9.heap.size := bw9.size
      have L_28 := Lib.hid (L_22.out.same (SameIn.below bw9 (by omega)))
      clear L_22
      have L_29 := Lib.hid (L_23.out.same (SameIn.below bw9 (by omega)))
      clear L_23
      have L_30 := Lib.hid (L_24.out.same (SameIn.below bw9 (by omega)))
      clear L_24
      have L_31 := Lib.hid (L_26.out.same (SameIn.below bw9 (by omega)))
      clear L_26
      have L_32 := Lib.hid (Nw8.out.same (SameIn.below bw9 (by omega)))
      clear Nw8
      have BL_33 := Lib.hid (BL_27.out.trans (bw9.mono (by omega)))
      clear BL_27 bw9
      go_wp2_with fail
      refine (HM2.out _ w9.heap.size _ (L_29.out.mono (Nat.zero_le _) (by omega)) (Nat.le_refl _)).mono ?_
      rintro e w10 ⟨rfl, bw10⟩
      have sw10 : w9.heap.size ≤ w10.heap.size := bw10.size
      have L_34 := Lib.hid (L_28.out.same (SameIn.below bw10 (by omega)))
      clear L_28
      have L_35 := Lib.hid (L_29.out.same (SameIn.below bw10 (by omega)))
      clear L_29
      have L_36 := Lib.hid (L_31.out.same (SameIn.below bw10 (by omega)))
      clear L_31
      have L_37 := Lib.hid (L_32.out.same (SameIn.below bw10 (by omega)))
      clear L_32
      have BL_38 := Lib.hid (BL_33.out.trans (bw10.mono (by omega)))
      clear BL_33 bw10
      go_wp2_with fail
      refine (HM1.out _ w10.heap.size _ (L_34.out.mono (Nat.zero_le _) (by omega)) (Nat.le_refl _)).mono ?_
      rintro e w11 ⟨rfl, bw11⟩
      have sw11 : w10.heap.size ≤ w11.heap.size := bw11.size
      have L_39 := Lib.hid (L_34.out.same (SameIn.below bw11 (by omega)))
      clear L_34
      have L_40 := Lib.hid (L_35.out.same (SameIn.below bw11 (by omega)))
      clear L_35
      have L_41 := Lib.hid (L_36.out.same (SameIn.below bw11 (by omega)))
      clear L_36
      have L_42 := Lib.hid (L_37.out.same (SameIn.below bw11 (by omega)))
      clear L_37
      have BL_43 := Lib.hid (BL_38.out.trans (bw11.mono (by omega)))
      clear BL_38 bw11
      go_wp2_with fail
      refine (HO2.out _ w11.heap.size _ (L_40.out.mono (Nat.zero_le _) (by omega)) (Nat.le_refl _)).mono ?_
      rintro e w12 ⟨rfl, bw12⟩
      have sw12 : w11.heap.size ≤ w12.heap.size := bw12.size
      have L_44 := Lib.hid (L_39.out.same (SameIn.below bw12 (by omega)))
      clear L_39
      have L_45 := Lib.hid (L_40.out.same (SameIn.below bw12 (by omega)))
      clear L_40
      have L_46 := Lib.hid (L_41.out.same (SameIn.below bw12 (by omega)))
      clear L_41
      have L_47 := Lib.hid (L_42.out.same (SameIn.below bw12 (by omega)))
      clear L_42
      have BL_48 := Lib.hid (BL_43.out.trans (bw12.mono (by omega)))
      clear BL_43 bw12
      go_wp2_with fail
      refine (HO1.out _ w12.heap.size _ (L_44.out.mono (Nat.zero_le _) (by omega)) (Nat.le_refl _)).mono ?_
      rintro e w13 ⟨rfl, bw13⟩
      have sw13 : w12.heap.size ≤ w13.heap.size := bw13.size
      have L_49 := Lib.hid (L_44.out.same (SameIn.below bw13 (by omega)))
      clear L_44
      have L_50 := Lib.hid (L_45.out.same (SameIn.below bw13 (by omega)))
      clear L_45
      have L_51 := Lib.hid (L_46.out.same (SameIn.below bw13 (by omega)))
      clear L_46
      have L_52 := Lib.hid (L_47.out.same (SameIn.below bw13 (by omega)))
      clear L_47
      have BL_53 := Lib.hid (BL_48.out.trans (bw13.mono (by omega)))
      clear BL_48 bw13
      go_wp2_with fail
      refine (HW1.out _ w13.heap.size _ _ 0 w13.heap.size (L_50.out.mono (Nat.zero_le _) (by omega)) (Nat.le_refl _) (L_51.out.mono (Nat.zero_le _) (by omega)) (Nat.le_refl _)).mono ?_
      rintro e w14 ⟨rfl, bw14⟩
      have sw14 : w13.heap.size ≤ w14.heap.size := bw14.size
      have L_54 := Lib.hid (L_49.out.same (SameIn.below bw14 (by omega)))
      clear L_49
      have L_55 := Lib.hid (L_50.out.same (SameIn.below bw14 (by omega)))
      clear L_50
      have L_56 := Lib.hid (L_51.out.same (SameIn.below bw14 (by omega)))
      clear L_51
      have L_57 := Lib.hid (L_52.out.same (SameIn.below bw14 (by omega)))
      clear L_52
      have BL_58 := Lib.hid (BL_53.out.trans (bw14.mono (by omega)))
      clear BL_53 bw14
      go_wp2_with fail
      refine (HW2.out _ w14.heap.size _ _ 0 w14.heap.size (L_55.out.mono (Nat.zero_le _) (by omega)) (Nat.le_refl _) (L_57.out.mono (Nat.zero_le _) (by omega)) (Nat.le_refl _)).mono ?_
      rintro e w15 ⟨rfl, bw15⟩
      have sw15 : w14.heap.size ≤ w15.heap.size := bw15.size
      have L_59 := Lib.hid (L_54.out.same (SameIn.below bw15 (by omega)))
      clear L_54
      have L_60 := Lib.hid (L_55.out.same (SameIn.below bw15 (by omega)))
      clear L_55
      have L_61 := Lib.hid (L_56.out.same (SameIn.below bw15 (by omega)))
      clear L_56
      have L_62 := Lib.hid (L_57.out.same (SameIn.below bw15 (by omega)))
      clear L_57
      have BL_63 := Lib.hid (BL_58.out.trans (bw15.mono (by omega)))
      clear BL_58 bw15
      go_wp2
      go_ret
      exact ⟨rfl, BL_63.out⟩
end Go.Proofs.Ythelaffjpmcdbaa
