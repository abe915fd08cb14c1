/- The law FnFixesMake of the promises: its walk. -/
import Derived.Test.YtidlloelinmnnaaFtP
import Derived.Test.YtidlloelinmnnaaDrawTw
namespace Go.Proofs.Ytidlloelinmnnaa
open Go.RowKit
set_option linter.unusedVariables false

set_option maxHeartbeats 4000000 in
set_option maxRecDepth 100000 in
theorem law_FnFixesMake (v : Value) (n : Nat) (w : World) (hv : RdB w.heap.size w v n) : Calls Try.prog 10 #[v] w (LawPost w) := by
  have HD := Lib.hid (draw_DrawFixesMake v n w.heap.size w hv (Nat.le_refl _))
  obtain ⟨ao, cap, cb, off, Z, rfl, hc1, hc2, _⟩ := hv
  by_cases hn : 1048576 < n
  · have hn' : (1048576 : Int) < n := by omega
    go_enter Try.func10, Try.ntmps10
    go_wp2
    go_ret
    exact ⟨rfl, Below.refl _ _⟩
  · have hn' : ¬ (1048576 : Int) < n := by omega
    go_enter Try.func10, Try.ntmps10
    go_wp2_with fail
    refine HD.out.mono ?_
    rintro e w1 ⟨va, a, vb, b, rfl, _, _, hma, hmb, hna, hnb, hla, hlb, bw1⟩
    obtain ⟨ba, oa, ca, rfl⟩ := hma.shape (by omega)
    obtain ⟨bb, ob, cb', rfl⟩ := hmb.shape (by omega)
    have R_a := Lib.hid hma
    have R_b := Lib.hid hmb
    have HLA := Lib.hid hla
    have HLB := Lib.hid hlb
    obtain ⟨hna1, hna5⟩ := hna
    obtain ⟨hnb1, hnb5⟩ := hnb
    clear hma hmb hla hlb HD
    have sw1 : w.heap.size ≤ w1.heap.size := bw1.size
    have BL := Lib.hid bw1
    clear bw1
    by_cases hok : AkOk a b
    case neg =>
      go_wp2_with fail
      refine (implMake_no _ _ 0 w1.heap.size a b _ (R_a.out.mono (Nat.zero_le _) (by omega)) (R_b.out.mono (Nat.zero_le _) (by omega)) (Nat.le_refl _) hok).mono ?_
      rintro e w2 ⟨r_1, rfl, _, ow2, bw2⟩
      obtain ⟨a_o, c_o, rfl⟩ := ow2.shape
      have Nw2 := Lib.hid ow2
      clear ow2
      have sw2 : w1.heap.size ≤ w2.heap.size := bw2.size
      have L_2 := Lib.hid (R_a.out.same (SameIn.below bw2 (by omega)))
      clear R_a
      have L_3 := Lib.hid (R_b.out.same (SameIn.below bw2 (by omega)))
      clear R_b
      have BL_4 := Lib.hid (BL.out.trans (bw2.mono (by omega)))
      clear BL bw2
      go_wp2_with fail
      refine (specMake_no _ _ 0 w2.heap.size a b _ (L_2.out.mono (Nat.zero_le _) (by omega)) (L_3.out.mono (Nat.zero_le _) (by omega)) (Nat.le_refl _) hok).mono ?_
      rintro e w3 ⟨r_5, rfl, _, ow3, bw3⟩
      obtain ⟨a_q, c_q, rfl⟩ := ow3.shape
      have Nw3 := Lib.hid ow3
      clear ow3
      have sw3 : w2.heap.size ≤ w3.heap.size := bw3.size
      have L_6 := Lib.hid (L_2.out.same (SameIn.below bw3 (by omega)))
      clear L_2
      have L_7 := Lib.hid (L_3.out.same (SameIn.below bw3 (by omega)))
      clear L_3
      have L_8 := Lib.hid (Nw2.out.same (SameIn.below bw3 (by omega)))
      clear Nw2
      have BL_9 := Lib.hid (BL_4.out.trans (bw3.mono (by omega)))
      clear BL_4 bw3
      go_wp2_with fail
      refine (sameFixes_any _ _ _ _ _ _ (0) _ _ _ (L_8.out) (Nw3.out) (fun _ _ => rfl) (by omega)).mono ?_
      rintro e w4 ⟨rfl, qw4, rfl⟩
      have bw4 := below_drewN (Below.refl w3.heap.size w3) qw4
      obtain ⟨w_w4, ew⟩ : ∃ w', w' = w3.drewN qw4 := ⟨_, rfl⟩
      rw [← ew] at bw4 ⊢
      clear ew
      have sw_w4 : w3.heap.size ≤ w_w4.heap.size := bw4.size
      have L_10 := Lib.hid (L_6.out.same (SameIn.below bw4 (by omega)))
      clear L_6
      have L_11 := Lib.hid (L_7.out.same (SameIn.below bw4 (by omega)))
      clear L_7
      have L_12 := Lib.hid (L_8.out.same (SameIn.below bw4 (by omega)))
      clear L_8
      have L_13 := Lib.hid (Nw3.out.same (SameIn.below bw4 (by omega)))
      clear Nw3
      have BL_14 := Lib.hid (BL_9.out.trans (bw4.mono (by omega)))
      clear BL_9 bw4
      go_wp2_with fail
      refine (sameFixes_any _ _ _ _ _ _ (0) _ _ _ (L_12.out) (L_13.out) (fun _ _ => rfl) (by omega)).mono ?_
      rintro e w5 ⟨rfl, qw5, rfl⟩
      have bw5 := below_drewN (Below.refl w_w4.heap.size w_w4) qw5
      obtain ⟨w_w5, ew⟩ : ∃ w', w' = w_w4.drewN qw5 := ⟨_, rfl⟩
      rw [← ew] at bw5 ⊢
      clear ew
      have sw_w5 : w_w4.heap.size ≤ w_w5.heap.size := bw5.size
      have L_15 := Lib.hid (L_10.out.same (SameIn.below bw5 (by omega)))
      clear L_10
      have L_16 := Lib.hid (L_11.out.same (SameIn.below bw5 (by omega)))
      clear L_11
      have L_17 := Lib.hid (L_12.out.same (SameIn.below bw5 (by omega)))
      clear L_12
      have L_18 := Lib.hid (L_13.out.same (SameIn.below bw5 (by omega)))
      clear L_13
      have BL_19 := Lib.hid (BL_14.out.trans (bw5.mono (by omega)))
      clear BL_14 bw5
      go_wp2
      go_ret
      exact ⟨rfl, BL_19.out⟩
    case pos =>
      have HFX := Lib.hid (fxOk_list (mk_ok hok).1)
      have HEX := Lib.hid (mk_ex hok)
      have HAR := Lib.hid (areB_yes (mk_are hok))
      have HBK := Lib.hid (mk_back hok)
      have HFA := Lib.hid (faE_yes hok)
      have HSY := Lib.hid hok.symm
      have hle := mkL_len (b := b) hok.1
      have hle2 := mkL_len (b := a) hok.2.1
      have HC1 := Lib.hid (fun v u lo hi w h1 h2 h3 => implMake_yes v u lo hi a b w h1 h2 h3 hok)
      have HC2 := Lib.hid (fun v u lo hi w h1 h2 h3 => specMake_yes v u lo hi a b w h1 h2 h3 hok)
      obtain ⟨L, eL⟩ : ∃ L, mkL a b = L := ⟨_, rfl⟩
      obtain ⟨M, eM⟩ : ∃ M, mkL b a = M := ⟨_, rfl⟩
      rw [eL] at HFX HEX HAR HBK HFA hle HC1 HC2
      rw [eM] at HBK hle2
      have EM := Lib.hid eM
      have HK := Lib.hid (show bkL (fxF (fzZ L) 0 L.length) = bkL L by rw [fzZ_F])
      have hKn : (bkL L).length = L.length := bkL_len L
      obtain ⟨K, eK⟩ : ∃ K, bkL L = K := ⟨_, rfl⟩
      rw [eK] at HBK HK hKn
      have hK6 : K.length ≤ 49 := by omega
      have hcmp : ((L.length : Int) == L.length) = true := by simp
      clear hok eL eM eK hKn
      go_wp2_with fail
      refine (HC1.out _ _ 0 w1.heap.size _ (R_a.out.mono (Nat.zero_le _) (by omega)) (R_b.out.mono (Nat.zero_le _) (by omega)) (Nat.le_refl _)).mono ?_
      rintro e w2 ⟨r_1, rfl, _, ow2, bw2⟩
      obtain ⟨a_o, c_o, rfl⟩ := ow2.shape
      have Nw2 := Lib.hid ow2
      clear ow2
      have sw2 : w1.heap.size ≤ w2.heap.size := bw2.size
      have L_2 := Lib.hid (R_a.out.same (SameIn.below bw2 (by omega)))
      clear R_a
      have L_3 := Lib.hid (R_b.out.same (SameIn.below bw2 (by omega)))
      clear R_b
      have BL_4 := Lib.hid (BL.out.trans (bw2.mono (by omega)))
      clear BL bw2
      go_wp2_with fail
      refine (HC2.out _ _ 0 w2.heap.size _ (L_2.out.mono (Nat.zero_le _) (by omega)) (L_3.out.mono (Nat.zero_le _) (by omega)) (Nat.le_refl _)).mono ?_
      rintro e w3 ⟨r_5, rfl, _, ow3, bw3⟩
      obtain ⟨a_q, c_q, rfl⟩ := ow3.shape
      have Nw3 := Lib.hid ow3
      clear ow3
      have sw3 : w2.heap.size ≤ w3.heap.size := bw3.size
      have L_6 := Lib.hid (L_2.out.same (SameIn.below bw3 (by omega)))
      clear L_2
      have L_7 := Lib.hid (L_3.out.same (SameIn.below bw3 (by omega)))
      clear L_3
      have L_8 := Lib.hid (Nw2.out.same (SameIn.below bw3 (by omega)))
      clear Nw2
      have BL_9 := Lib.hid (BL_4.out.trans (bw3.mono (by omega)))
      clear BL_4 bw3
      go_wp2_with fail
      refine (sameFixes_any _ _ _ _ _ _ (L.length) _ _ _ (L_8.out) (Nw3.out) (fun _ _ => rfl) (by omega)).mono ?_
      rintro e w4 ⟨rfl, qw4, rfl⟩
      have bw4 := below_drewN (Below.refl w3.heap.size w3) qw4
      obtain ⟨w_w4, ew⟩ : ∃ w', w' = w3.drewN qw4 := ⟨_, rfl⟩
      rw [← ew] at bw4 ⊢
      clear ew
      have sw_w4 : w3.heap.size ≤ w_w4.heap.size := bw4.size
      have L_10 := Lib.hid (L_6.out.same (SameIn.below bw4 (by omega)))
      clear L_6
      have L_11 := Lib.hid (L_7.out.same (SameIn.below bw4 (by omega)))
      clear L_7
      have L_12 := Lib.hid (L_8.out.same (SameIn.below bw4 (by omega)))
      clear L_8
      have L_13 := Lib.hid (Nw3.out.same (SameIn.below bw4 (by omega)))
      clear Nw3
      have BL_14 := Lib.hid (BL_9.out.trans (bw4.mono (by omega)))
      clear BL_9 bw4
      go_wp2_with fail
      refine (implDo_yes _ _ 0 w_w4.heap.size L.length a (fzZ L) _ (L_10.out.mono (Nat.zero_le _) (by omega)) (L_12.out.mono (Nat.zero_le _) (by omega)) (Nat.le_refl _) (by omega) HFX.out).mono ?_
      rintro e w5 ⟨r_15, rfl, ⟨_, _, _, rfl⟩, ow5, bw5⟩
      have Nw5 := Lib.hid (ow5.rd)
      clear ow5
      have sw5 : w_w4.heap.size ≤ w5.heap.size := bw5.size
      have L_16 := Lib.hid (L_10.out.same (SameIn.below bw5 (by omega)))
      clear L_10
      have L_17 := Lib.hid (L_11.out.same (SameIn.below bw5 (by omega)))
      clear L_11
      have L_18 := Lib.hid (L_12.out.same (SameIn.below bw5 (by omega)))
      clear L_12
      have BL_19 := Lib.hid (BL_14.out.trans (bw5.mono (by omega)))
      clear BL_14 bw5
      go_wp2_with fail
      refine ((implBack_yes _ _ 0 w5.heap.size L.length a (fzZ L) _ (L_16.out.mono (Nat.zero_le _) (by omega)) (L_18.out.mono (Nat.zero_le _) (by omega)) (Nat.le_refl _) (by omega) HFX.out).mono (fun _ _ h => by rw [HK.out] at h; exact h)).mono ?_
      rintro e w6 ⟨r_20, rfl, _, ow6, bw6⟩
      obtain ⟨a_k, c_k, rfl⟩ := ow6.shape
      have Nw6 := Lib.hid ow6
      clear ow6
      have sw6 : w5.heap.size ≤ w6.heap.size := bw6.size
      have L_21 := Lib.hid (L_16.out.same (SameIn.below bw6 (by omega)))
      clear L_16
      have L_22 := Lib.hid (L_17.out.same (SameIn.below bw6 (by omega)))
      clear L_17
      have L_23 := Lib.hid (L_18.out.same (SameIn.below bw6 (by omega)))
      clear L_18
      have L_24 := Lib.hid (Nw5.out.same (SameIn.below bw6 (by omega)))
      clear Nw5
      have BL_25 := Lib.hid (BL_19.out.trans (bw6.mono (by omega)))
      clear BL_19 bw6
      go_wp2_with fail
      refine ((implShort_yes _ _ 0 w6.heap.size K.length b (fzZ K) _ (L_22.out.mono (Nat.zero_le _) (by omega)) (Nw6.out.mono (Nat.zero_le _) (by omega)) (Nat.le_refl _) (by omega) HBK.out.1).mono (fun _ _ h => by rw [HBK.out.2] at h; exact h)).mono ?_
      rintro e w7 ⟨r_26, rfl, _, ow7, bw7⟩
      obtain ⟨a_s, c_s, rfl⟩ := ow7.shape
      have Nw7 := Lib.hid ow7
      clear ow7
      have sw7 : w6.heap.size ≤ w7.heap.size := bw7.size
      have L_27 := Lib.hid (L_21.out.same (SameIn.below bw7 (by omega)))
      clear L_21
      have L_28 := Lib.hid (L_22.out.same (SameIn.below bw7 (by omega)))
      clear L_22
      have L_29 := Lib.hid (L_23.out.same (SameIn.below bw7 (by omega)))
      clear L_23
      have L_30 := Lib.hid (L_24.out.same (SameIn.below bw7 (by omega)))
      clear L_24
      have L_31 := Lib.hid (Nw6.out.same (SameIn.below bw7 (by omega)))
      clear Nw6
      have BL_32 := Lib.hid (BL_25.out.trans (bw7.mono (by omega)))
      clear BL_25 bw7
      go_wp2_with fail
      refine ((implMake_yes _ _ 0 w7.heap.size b a _ (L_28.out.mono (Nat.zero_le _) (by omega)) (L_27.out.mono (Nat.zero_le _) (by omega)) (Nat.le_refl _) HSY.out).mono (fun _ _ h => by rw [EM.out] at h; exact h)).mono ?_
      rintro e w8 ⟨r_33, rfl, _, ow8, bw8⟩
      obtain ⟨a_m, c_m, rfl⟩ := ow8.shape
      have Nw8 := Lib.hid ow8
      clear ow8
      have sw8 : w7.heap.size ≤ w8.heap.size := bw8.size
      have L_34 := Lib.hid (L_27.out.same (SameIn.below bw8 (by omega)))
      clear L_27
      have L_35 := Lib.hid (L_28.out.same (SameIn.below bw8 (by omega)))
      clear L_28
      have L_36 := Lib.hid (L_29.out.same (SameIn.below bw8 (by omega)))
      clear L_29
      have L_37 := Lib.hid (L_30.out.same (SameIn.below bw8 (by omega)))
      clear L_30
      have L_38 := Lib.hid (L_31.out.same (SameIn.below bw8 (by omega)))
      clear L_31
      have L_39 := Lib.hid (Nw7.out.same (SameIn.below bw8 (by omega)))
      clear Nw7
      have BL_40 := Lib.hid (BL_32.out.trans (bw8.mono (by omega)))
      clear BL_32 bw8
      go_wp2_with fail
      refine (sameGrid_any _ _ _ _ _ _ (b) _ (L_37.out.congr HEX.out) (L_35.out)).mono ?_
      intro e w9 hq
      obtain ⟨rfl, bw9⟩ := hq.below
      clear hq
      have sw9 : w8.heap.size ≤ w9.heap.size := bw9.size
      have L_41 := Lib.hid (L_34.out.same (SameIn.below bw9 (by omega)))
      clear L_34
      have L_42 := Lib.hid (L_35.out.same (SameIn.below bw9 (by omega)))
      clear L_35
      have L_43 := Lib.hid (L_36.out.same (SameIn.below bw9 (by omega)))
      clear L_36
      have L_44 := Lib.hid (L_37.out.same (SameIn.below bw9 (by omega)))
      clear L_37
      have L_45 := Lib.hid (L_38.out.same (SameIn.below bw9 (by omega)))
      clear L_38
      have L_46 := Lib.hid (L_39.out.same (SameIn.below bw9 (by omega)))
      clear L_39
      have L_47 := Lib.hid (Nw8.out.same (SameIn.below bw9 (by omega)))
      clear Nw8
      have BL_48 := Lib.hid (BL_40.out.trans (bw9.mono (by omega)))
      clear BL_40 bw9
      go_wp2_with fail
      refine (implAre_b _ _ 0 w9.heap.size L.length a (fzZ L) _ (L_41.out.mono (Nat.zero_le _) (by omega)) (L_43.out.mono (Nat.zero_le _) (by omega)) (Nat.le_refl _) (by omega) true HAR.out).mono ?_
      rintro e w10 ⟨rfl, bw10⟩
      have sw10 : w9.heap.size ≤ w10.heap.size := bw10.size
      have L_49 := Lib.hid (L_41.out.same (SameIn.below bw10 (by omega)))
      clear L_41
      have L_50 := Lib.hid (L_42.out.same (SameIn.below bw10 (by omega)))
      clear L_42
      have L_51 := Lib.hid (L_43.out.same (SameIn.below bw10 (by omega)))
      clear L_43
      have L_52 := Lib.hid (L_44.out.same (SameIn.below bw10 (by omega)))
      clear L_44
      have L_53 := Lib.hid (L_45.out.same (SameIn.below bw10 (by omega)))
      clear L_45
      have L_54 := Lib.hid (L_46.out.same (SameIn.below bw10 (by omega)))
      clear L_46
      have L_55 := Lib.hid (L_47.out.same (SameIn.below bw10 (by omega)))
      clear L_47
      have BL_56 := Lib.hid (BL_48.out.trans (bw10.mono (by omega)))
      clear BL_48 bw10
      go_wp2_with fail
      refine (implFar_i _ _ 0 w10.heap.size a b _ (L_49.out.mono (Nat.zero_le _) (by omega)) (L_50.out.mono (Nat.zero_le _) (by omega)) (Nat.le_refl _) _ HFA.out).mono ?_
      rintro e w11 ⟨rfl, bw11⟩
      have sw11 : w10.heap.size ≤ w11.heap.size := bw11.size
      have L_57 := Lib.hid (L_49.out.same (SameIn.below bw11 (by omega)))
      clear L_49
      have L_58 := Lib.hid (L_50.out.same (SameIn.below bw11 (by omega)))
      clear L_50
      have L_59 := Lib.hid (L_51.out.same (SameIn.below bw11 (by omega)))
      clear L_51
      have L_60 := Lib.hid (L_52.out.same (SameIn.below bw11 (by omega)))
      clear L_52
      have L_61 := Lib.hid (L_53.out.same (SameIn.below bw11 (by omega)))
      clear L_53
      have L_62 := Lib.hid (L_54.out.same (SameIn.below bw11 (by omega)))
      clear L_54
      have L_63 := Lib.hid (L_55.out.same (SameIn.below bw11 (by omega)))
      clear L_55
      have BL_64 := Lib.hid (BL_56.out.trans (bw11.mono (by omega)))
      clear BL_56 bw11
      go_wp2_with fail
      refine (sameFixes_any _ _ _ _ _ _ (M.length) _ _ _ (L_62.out) (L_63.out) (fun _ _ => rfl) (by omega)).mono ?_
      rintro e w12 ⟨rfl, qw12, rfl⟩
      have bw12 := below_drewN (Below.refl w11.heap.size w11) qw12
      obtain ⟨w_w12, ew⟩ : ∃ w', w' = w11.drewN qw12 := ⟨_, rfl⟩
      rw [← ew] at bw12 ⊢
      clear ew
      have sw_w12 : w11.heap.size ≤ w_w12.heap.size := bw12.size
      have L_65 := Lib.hid (L_57.out.same (SameIn.below bw12 (by omega)))
      clear L_57
      have L_66 := Lib.hid (L_58.out.same (SameIn.below bw12 (by omega)))
      clear L_58
      have L_67 := Lib.hid (L_59.out.same (SameIn.below bw12 (by omega)))
      clear L_59
      have L_68 := Lib.hid (L_60.out.same (SameIn.below bw12 (by omega)))
      clear L_60
      have L_69 := Lib.hid (L_61.out.same (SameIn.below bw12 (by omega)))
      clear L_61
      have L_70 := Lib.hid (L_62.out.same (SameIn.below bw12 (by omega)))
      clear L_62
      have L_71 := Lib.hid (L_63.out.same (SameIn.below bw12 (by omega)))
      clear L_63
      have BL_72 := Lib.hid (BL_64.out.trans (bw12.mono (by omega)))
      clear BL_64 bw12
      go_wp2
      go_ret
      exact ⟨rfl, BL_72.out⟩
end Go.Proofs.Ytidlloelinmnnaa
