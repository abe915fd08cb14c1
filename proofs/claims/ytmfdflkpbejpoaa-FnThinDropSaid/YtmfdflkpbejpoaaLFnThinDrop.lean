/- The law FnThinDrop of the promises: its walk. -/
import Derived.Test.YtmfdflkpbejpoaaThRd
import Derived.Test.YtmfdflkpbejpoaaDrawY
namespace Go.Proofs.Ytmfdflkpbejpoaa
open Go.RowKit
set_option linter.unusedVariables false

set_option maxHeartbeats 4000000 in
set_option maxRecDepth 100000 in
theorem law_FnThinDrop (v : Value) (n : Nat) (w : World) (hv : RdB w.heap.size w v n) : Calls Try.prog 12 #[v] w (LawPost w) := by
  have HD := Lib.hid (draw_DrawThinDrop v n w.heap.size w hv (Nat.le_refl _))
  obtain ⟨ao, cap, cb, off, Z, rfl, hc1, hc2, _⟩ := hv
  by_cases hn : 1048576 < n
  · have hn' : (1048576 : Int) < n := by omega
    go_enter Try.func12, Try.ntmps12
    go_wp2
    go_ret
    exact ⟨rfl, Below.refl _ _⟩
  · have hn' : ¬ (1048576 : Int) < n := by omega
    go_enter Try.func12, Try.ntmps12
    go_wp2_with fail
    refine HD.out.mono ?_
    rintro e w1 ⟨vp, n0, z0, vu, m0, y0, k0, rfl, hm, hmu, hn8, hm8, hzz, hk0, bw1⟩
    obtain ⟨ap, cp, rfl⟩ := hm.shape
    obtain ⟨au, cu, rfl⟩ := hmu.shape
    have R_p := Lib.hid hm
    have R_u := Lib.hid hmu
    obtain ⟨hk1, hk2⟩ := hk0
    clear hm hmu hzz HD
    have sw1 : w.heap.size ≤ w1.heap.size := bw1.size
    have BL := Lib.hid bw1
    clear bw1
    by_cases hok : DrOk n0 z0 m0 y0 k0
    case neg =>
      go_wp2_with fail
      refine (implTD_no _ _ 0 w1.heap.size 0 w1.heap.size n0 m0 z0 y0 k0 _ (R_p.out.mono (Nat.zero_le _) (by omega)) (R_u.out.mono (Nat.zero_le _) (by omega)) (Nat.le_refl _) (by omega) hok).mono ?_
      rintro e w2 ⟨_, rfl, ⟨_, _, _, rfl⟩, ow2, bw2⟩
      have Nw2 := Lib.hid (ow2.rd)
      clear ow2
      have sw2 : w1.heap.size ≤ w2.heap.size := bw2.size
      have L_1 := Lib.hid (R_p.out.same (SameIn.below bw2 (by omega)))
      clear R_p
      have L_2 := Lib.hid (R_u.out.same (SameIn.below bw2 (by omega)))
      clear R_u
      have BL_3 := Lib.hid (BL.out.trans (bw2.mono (by omega)))
      clear BL bw2
      go_wp2_with fail
      refine (specTD_no _ _ 0 w2.heap.size 0 w2.heap.size n0 m0 z0 y0 k0 _ (L_1.out.mono (Nat.zero_le _) (by omega)) (L_2.out.mono (Nat.zero_le _) (by omega)) (Nat.le_refl _) (Nat.le_refl _) (by omega) (by omega) hok).mono ?_
      rintro e w3 ⟨_, rfl, ⟨_, _, _, rfl⟩, ow3, bw3⟩
      have Nw3 := Lib.hid (ow3)
      clear ow3
      have sw3 : w2.heap.size ≤ w3.heap.size := bw3.size
      have L_4 := Lib.hid (L_1.out.same (SameIn.below bw3 (by omega)))
      clear L_1
      have L_5 := Lib.hid (L_2.out.same (SameIn.below bw3 (by omega)))
      clear L_2
      have L_6 := Lib.hid (Nw2.out.same (SameIn.below bw3 (by omega)))
      clear Nw2
      have BL_7 := Lib.hid (BL_3.out.trans (bw3.mono (by omega)))
      clear BL_3 bw3
      go_wp2_with fail
      refine (sameInts_any _ _ _ _ _ _ (0) _ _ _ L_6.out Nw3.out (fun _ _ => rfl)).mono ?_
      intro e w4 hq
      obtain ⟨rfl, bw4⟩ := hq.bl
      clear hq
      have sw4 : w3.heap.size ≤ w4.heap.size := bw4.size
      have L_8 := Lib.hid (L_4.out.same (SameIn.below bw4 (by omega)))
      clear L_4
      have L_9 := Lib.hid (L_5.out.same (SameIn.below bw4 (by omega)))
      clear L_5
      have L_10 := Lib.hid (L_6.out.same (SameIn.below bw4 (by omega)))
      clear L_6
      have L_11 := Lib.hid (Nw3.out.same (SameIn.below bw4 (by omega)))
      clear Nw3
      have BL_12 := Lib.hid (BL_7.out.trans (bw4.mono (by omega)))
      clear BL_7 bw4
      go_wp2_with fail
      refine (sameInts_any _ _ _ _ _ _ (0) _ _ _ L_10.out L_11.out (fun _ _ => rfl)).mono ?_
      intro e w5 hq
      obtain ⟨rfl, bw5⟩ := hq.bl
      clear hq
      have sw5 : w4.heap.size ≤ w5.heap.size := bw5.size
      have L_13 := Lib.hid (L_8.out.same (SameIn.below bw5 (by omega)))
      clear L_8
      have L_14 := Lib.hid (L_9.out.same (SameIn.below bw5 (by omega)))
      clear L_9
      have L_15 := Lib.hid (L_10.out.same (SameIn.below bw5 (by omega)))
      clear L_10
      have L_16 := Lib.hid (L_11.out.same (SameIn.below bw5 (by omega)))
      clear L_11
      have BL_17 := Lib.hid (BL_12.out.trans (bw5.mono (by omega)))
      clear BL_12 bw5
      go_wp2
      go_ret
      exact ⟨rfl, BL_17.out⟩
    case pos =>
      obtain ⟨k, ek⟩ : ∃ k : Nat, (k : Int) = k0 := ⟨k0.toNat, by have := hok.2.1; omega⟩
      subst ek
      obtain ⟨M, hM⟩ : ∃ M, M + 1 = m0 := ⟨m0 - 1, by have := hok.1.2.1; omega⟩
      obtain ⟨Yd, eY⟩ : ∃ f, dpY m0 y0 k = f := ⟨_, rfl⟩
      have HM := Lib.hid hM
      have HY := Lib.hid eY
      obtain ⟨hd1, ⟨hd2, hd3⟩, hd4⟩ := drop_facts hok hM eY
      have HTB := Lib.hid (thB_yes hd1)
      have HP1 := Lib.hid (hgP_ok hok.1)
      have HP2 := Lib.hid (hgP_ok hd1)
      have HO1 := Lib.hid hok.1
      have HO2 := Lib.hid hd1
      have HOK := Lib.hid hok
      obtain ⟨E, eE⟩ : ∃ E, thE n0 z0 M Yd = E := ⟨_, rfl⟩
      obtain ⟨U, eU⟩ : ∃ U, upV (hgP z0 y0 m0) (m0 - 1) = U := ⟨_, rfl⟩
      obtain ⟨D, eD⟩ : ∃ U, dnV (hgP z0 y0 m0) (m0 - 1) = U := ⟨_, rfl⟩
      obtain ⟨U2, eU2⟩ : ∃ U, upV (hgP z0 Yd M) (M - 1) = U := ⟨_, rfl⟩
      obtain ⟨D2, eD2⟩ : ∃ U, dnV (hgP z0 Yd M) (M - 1) = U := ⟨_, rfl⟩
      rw [eU, eU2] at hd2 hd4
      rw [eD, eD2] at hd3 hd4
      rw [eE] at hd4
      have HEU := Lib.hid eU
      have HED := Lib.hid eD
      have HEU2 := Lib.hid eU2
      have HED2 := Lib.hid eD2
      have HEE := Lib.hid eE
      have HD4 := Lib.hid hd4
      have hM8 : M ≤ 8 := by omega
      have hlen : ((M : Int) == (m0 : Int) - 1) = true := by rw [beq_iff_eq]; omega
      clear hok hd1 hd4 eE eU eD eU2 eD2 eY hM
      go_wp2_with fail
      refine (implTD_m _ _ 0 w1.heap.size 0 w1.heap.size n0 m0 M z0 y0 Yd k _ (R_p.out.mono (Nat.zero_le _) (by omega)) (R_u.out.mono (Nat.zero_le _) (by omega)) (Nat.le_refl _) (by omega) HOK.out HM.out HY.out).mono ?_
      rintro e w2 ⟨_, rfl, ⟨_, _, _, rfl⟩, ow2, bw2⟩
      have Nw2 := Lib.hid (ow2.rd)
      clear ow2
      have sw2 : w1.heap.size ≤ w2.heap.size := bw2.size
      have L_1 := Lib.hid (R_p.out.same (SameIn.below bw2 (by omega)))
      clear R_p
      have L_2 := Lib.hid (R_u.out.same (SameIn.below bw2 (by omega)))
      clear R_u
      have BL_3 := Lib.hid (BL.out.trans (bw2.mono (by omega)))
      clear BL bw2
      obtain ⟨_, _, hS⟩ := Nw2.out.shape
      injection hS with hS1 hS2 hS3
      have hS2' := hS2.symm
      subst hS2'
      clear hS1 hS3
      go_wp2_with fail
      refine (specTD_m _ _ 0 w2.heap.size 0 w2.heap.size n0 m0 M z0 y0 Yd k _ (L_1.out.mono (Nat.zero_le _) (by omega)) (L_2.out.mono (Nat.zero_le _) (by omega)) (Nat.le_refl _) (Nat.le_refl _) (by omega) (by omega) HOK.out HM.out HY.out).mono ?_
      rintro e w3 ⟨_, rfl, ⟨_, _, _, rfl⟩, ow3, bw3⟩
      have Nw3 := Lib.hid (ow3)
      clear ow3
      have sw3 : w2.heap.size ≤ w3.heap.size := bw3.size
      have L_4 := Lib.hid (L_1.out.same (SameIn.below bw3 (by omega)))
      clear L_1
      have L_5 := Lib.hid (L_2.out.same (SameIn.below bw3 (by omega)))
      clear L_2
      have L_6 := Lib.hid (Nw2.out.same (SameIn.below bw3 (by omega)))
      clear Nw2
      have BL_7 := Lib.hid (BL_3.out.trans (bw3.mono (by omega)))
      clear BL_3 bw3
      go_wp2_with fail
      refine (sameInts_any _ _ _ _ _ _ (M) _ _ _ L_6.out Nw3.out (fun _ _ => rfl)).mono ?_
      intro e w4 hq
      obtain ⟨rfl, bw4⟩ := hq.bl
      clear hq
      have sw4 : w3.heap.size ≤ w4.heap.size := bw4.size
      have L_8 := Lib.hid (L_4.out.same (SameIn.below bw4 (by omega)))
      clear L_4
      have L_9 := Lib.hid (L_5.out.same (SameIn.below bw4 (by omega)))
      clear L_5
      have L_10 := Lib.hid (L_6.out.same (SameIn.below bw4 (by omega)))
      clear L_6
      have L_11 := Lib.hid (Nw3.out.same (SameIn.below bw4 (by omega)))
      clear Nw3
      have BL_12 := Lib.hid (BL_7.out.trans (bw4.mono (by omega)))
      clear BL_7 bw4
      go_wp2_with fail
      refine (implTP_yes _ _ 0 w4.heap.size 0 w4.heap.size n0 m0 z0 y0 _ (L_8.out.mono (Nat.zero_le _) (by omega)) (L_9.out.mono (Nat.zero_le _) (by omega)) (Nat.le_refl _) (Nat.le_refl _) (by omega) HO1.out).mono ?_
      rintro e w5 ⟨_, rfl, ⟨_, _, _, rfl⟩, ow5, bw5⟩
      have Nw5 := Lib.hid (ow5.rd)
      clear ow5
      have sw5 : w4.heap.size ≤ w5.heap.size := bw5.size
      have L_13 := Lib.hid (L_8.out.same (SameIn.below bw5 (by omega)))
      clear L_8
      have L_14 := Lib.hid (L_9.out.same (SameIn.below bw5 (by omega)))
      clear L_9
      have L_15 := Lib.hid (L_10.out.same (SameIn.below bw5 (by omega)))
      clear L_10
      have BL_16 := Lib.hid (BL_12.out.trans (bw5.mono (by omega)))
      clear BL_12 bw5
      go_wp2_with fail
      refine (implTP_yes _ _ 0 w5.heap.size 0 w5.heap.size n0 M z0 Yd _ (L_13.out.mono (Nat.zero_le _) (by omega)) (L_15.out.mono (Nat.zero_le _) (by omega)) (Nat.le_refl _) (Nat.le_refl _) (by omega) HO2.out).mono ?_
      rintro e w6 ⟨_, rfl, ⟨_, _, _, rfl⟩, ow6, bw6⟩
      have Nw6 := Lib.hid (ow6.rd)
      clear ow6
      have sw6 : w5.heap.size ≤ w6.heap.size := bw6.size
      have L_17 := Lib.hid (L_13.out.same (SameIn.below bw6 (by omega)))
      clear L_13
      have L_18 := Lib.hid (L_14.out.same (SameIn.below bw6 (by omega)))
      clear L_14
      have L_19 := Lib.hid (L_15.out.same (SameIn.below bw6 (by omega)))
      clear L_15
      have L_20 := Lib.hid (Nw5.out.same (SameIn.below bw6 (by omega)))
      clear Nw5
      have BL_21 := Lib.hid (BL_16.out.trans (bw6.mono (by omega)))
      clear BL_16 bw6
      go_wp2_with fail
      refine (implClimb_l _ 0 w6.heap.size m0 (hgP z0 y0 m0) U D _ (L_20.out.mono (Nat.zero_le _) (by omega)) (Nat.le_refl _) HP1.out HEU.out HED.out).mono ?_
      rintro e w7 ⟨rfl, bw7⟩
      have sw7 : w6.heap.size ≤ w7.heap.size := bw7.size
      have L_22 := Lib.hid (L_17.out.same (SameIn.below bw7 (by omega)))
      clear L_17
      have L_23 := Lib.hid (L_18.out.same (SameIn.below bw7 (by omega)))
      clear L_18
      have L_24 := Lib.hid (L_19.out.same (SameIn.below bw7 (by omega)))
      clear L_19
      have L_25 := Lib.hid (L_20.out.same (SameIn.below bw7 (by omega)))
      clear L_20
      have L_26 := Lib.hid (Nw6.out.same (SameIn.below bw7 (by omega)))
      clear Nw6
      have BL_27 := Lib.hid (BL_21.out.trans (bw7.mono (by omega)))
      clear BL_21 bw7
      go_wp2_with fail
      refine (implClimb_l _ 0 w7.heap.size M (hgP z0 Yd M) U2 D2 _ (L_26.out.mono (Nat.zero_le _) (by omega)) (Nat.le_refl _) HP2.out HEU2.out HED2.out).mono ?_
      rintro e w8 ⟨rfl, bw8⟩
      have sw8 : w7.heap.size ≤ w8.heap.size := bw8.size
      have L_28 := Lib.hid (L_22.out.same (SameIn.below bw8 (by omega)))
      clear L_22
      have L_29 := Lib.hid (L_23.out.same (SameIn.below bw8 (by omega)))
      clear L_23
      have L_30 := Lib.hid (L_24.out.same (SameIn.below bw8 (by omega)))
      clear L_24
      have L_31 := Lib.hid (L_25.out.same (SameIn.below bw8 (by omega)))
      clear L_25
      have L_32 := Lib.hid (L_26.out.same (SameIn.below bw8 (by omega)))
      clear L_26
      have BL_33 := Lib.hid (BL_27.out.trans (bw8.mono (by omega)))
      clear BL_27 bw8
      go_wp2_with fail
      refine (implThinErr_i _ _ 0 w8.heap.size 0 w8.heap.size n0 M z0 Yd E _ (L_28.out.mono (Nat.zero_le _) (by omega)) (L_30.out.mono (Nat.zero_le _) (by omega)) (Nat.le_refl _) (Nat.le_refl _) (by omega) HEE.out).mono ?_
      rintro e w9 ⟨rfl, bw9⟩
      have sw9 : w8.heap.size ≤ w9.heap.size := bw9.size
      have L_34 := Lib.hid (L_28.out.same (SameIn.below bw9 (by omega)))
      clear L_28
      have L_35 := Lib.hid (L_29.out.same (SameIn.below bw9 (by omega)))
      clear L_29
      have L_36 := Lib.hid (L_30.out.same (SameIn.below bw9 (by omega)))
      clear L_30
      have BL_37 := Lib.hid (BL_33.out.trans (bw9.mono (by omega)))
      clear BL_33 bw9
      by_cases hE : E = 0
      case pos =>
        have hb1 : (E == 0) = true := by rw [beq_iff_eq]; exact hE
        obtain ⟨h5, h6⟩ := HD4.out hE
        have hb5 : (U2 == U) = true := by rw [beq_iff_eq]; exact h5
        have hb6 : (D2 == D) = true := by rw [beq_iff_eq]; exact h6
        clear hE h5 h6
        go_wp2_with fail
        refine (implThin_b _ _ 0 w9.heap.size 0 w9.heap.size n0 M z0 Yd true _ (L_34.out.mono (Nat.zero_le _) (by omega)) (L_36.out.mono (Nat.zero_le _) (by omega)) (Nat.le_refl _) (by omega) HTB.out).mono ?_
        rintro e w10 ⟨rfl, bw10⟩
        have sw10 : w9.heap.size ≤ w10.heap.size := bw10.size
        have L_38 := Lib.hid (L_34.out.same (SameIn.below bw10 (by omega)))
        clear L_34
        have L_39 := Lib.hid (L_35.out.same (SameIn.below bw10 (by omega)))
        clear L_35
        have L_40 := Lib.hid (L_36.out.same (SameIn.below bw10 (by omega)))
        clear L_36
        have BL_41 := Lib.hid (BL_37.out.trans (bw10.mono (by omega)))
        clear BL_37 bw10
        go_wp2
        go_ret
        exact ⟨rfl, BL_41.out⟩
      case neg =>
        have hb1 : (E == 0) = false := by rw [beq_eq_false_iff_ne]; exact hE
        clear hE
        go_wp2_with fail
        refine (implThin_b _ _ 0 w9.heap.size 0 w9.heap.size n0 M z0 Yd true _ (L_34.out.mono (Nat.zero_le _) (by omega)) (L_36.out.mono (Nat.zero_le _) (by omega)) (Nat.le_refl _) (by omega) HTB.out).mono ?_
        rintro e w10 ⟨rfl, bw10⟩
        have sw10 : w9.heap.size ≤ w10.heap.size := bw10.size
        have L_38 := Lib.hid (L_34.out.same (SameIn.below bw10 (by omega)))
        clear L_34
        have L_39 := Lib.hid (L_35.out.same (SameIn.below bw10 (by omega)))
        clear L_35
        have L_40 := Lib.hid (L_36.out.same (SameIn.below bw10 (by omega)))
        clear L_36
        have BL_41 := Lib.hid (BL_37.out.trans (bw10.mono (by omega)))
        clear BL_37 bw10
        go_wp2
        go_ret
        exact ⟨rfl, BL_41.out⟩
end Go.Proofs.Ytmfdflkpbejpoaa
