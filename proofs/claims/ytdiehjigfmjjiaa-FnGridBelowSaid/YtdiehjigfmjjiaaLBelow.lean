/- The law FnGridBelow of the promises: its walk. -/
import Derived.Test.YtdiehjigfmjjiaaTwoM
import Derived.Test.YtdiehjigfmjjiaaDrawT
import Derived.Test.YtdiehjigfmjjiaaSame
namespace Go.Proofs.Ytdiehjigfmjjiaa
open Go.RowKit
set_option linter.unusedVariables false

set_option maxHeartbeats 4000000 in
set_option maxRecDepth 100000 in
theorem law_FnGridBelow (v : Value) (n : Nat) (w : World) (hv : RdB w.heap.size w v n) : Calls Try.prog 4 #[v] w (LawPost w) := by
  have HD := Lib.hid (draw_DrawGridBelow v n w.heap.size w hv (Nat.le_refl _))
  obtain ⟨ao, cap, cb, off, Z, rfl, hc1, hc2, _⟩ := hv
  by_cases hn : 1048576 < n
  · have hn' : (1048576 : Int) < n := by omega
    go_enter Try.func4, Try.ntmps4
    go_wp2
    go_ret
    exact ⟨rfl, Below.refl _ _⟩
  · have hn' : ¬ (1048576 : Int) < n := by omega
    go_enter Try.func4, Try.ntmps4
    go_wp2_with fail
    refine HD.out.mono ?_
    rintro e w1 ⟨va, a, vb, b, rfl, _, _, hma, hmb, hna, hnb, hla, hlb, bw1⟩
    obtain ⟨ba, oa, ca, rfl⟩ := hma.shape (by omega)
    obtain ⟨bb, ob, cb', rfl⟩ := hmb.shape (by omega)
    have R_a := Lib.hid hma
    have R_b := Lib.hid hmb
    have HLA := Lib.hid hla
    have HLB := Lib.hid hlb
    obtain ⟨hna1, hna5⟩ := hna
    obtain ⟨hnb1, hnb5⟩ := hnb
    clear hma hmb hla hlb HD
    have sw1 : w.heap.size ≤ w1.heap.size := bw1.size
    have BL := Lib.hid bw1
    clear bw1
    by_cases hok : BelowOk a b
    case neg =>
      have HOK := Lib.hid hok
      clear hok
      go_wp2_with fail
      refine (((implGridBelow_any _ _ 0 w1.heap.size a b _ (R_a.out.mono (Nat.zero_le _) (by omega)) (R_b.out.mono (Nat.zero_le _) (by omega)) (Nat.le_refl _)).mono fun _ _ hp => hp.2 HOK.out)).mono ?_
      rintro e w2 ⟨r_1, rfl, ⟨_, _, _, rfl⟩, ow2, bw2⟩
      have Nw2 := Lib.hid (ow2.rd)
      clear ow2
      have sw2 : w1.heap.size ≤ w2.heap.size := bw2.size
      have L_2 := Lib.hid (R_a.out.same (SameIn.below bw2 (by omega)))
      clear R_a
      have L_3 := Lib.hid (R_b.out.same (SameIn.below bw2 (by omega)))
      clear R_b
      have BL_4 := Lib.hid (BL.out.trans (bw2.mono (by omega)))
      clear BL bw2
      go_wp2_with fail
      refine (((specGridBelow_any _ _ 0 w2.heap.size a b _ (L_2.out.mono (Nat.zero_le _) (by omega)) (L_3.out.mono (Nat.zero_le _) (by omega)) (Nat.le_refl _) (by omega) (fun r hr => Nat.le_trans (HLA.out r hr) (by omega)) (by omega) (fun r hr => Nat.le_trans (HLB.out r hr) (by omega))).mono fun _ _ hp => hp.2 HOK.out)).mono ?_
      rintro e w3 ⟨r_5, rfl, ⟨_, _, _, rfl⟩, ow3, bw3⟩
      have Nw3 := Lib.hid (ow3)
      clear ow3
      have sw3 : w2.heap.size ≤ w3.heap.size := bw3.size
      have L_6 := Lib.hid (L_2.out.same (SameIn.below bw3 (by omega)))
      clear L_2
      have L_7 := Lib.hid (L_3.out.same (SameIn.below bw3 (by omega)))
      clear L_3
      have L_8 := Lib.hid (Nw2.out.same (SameIn.below bw3 (by omega)))
      clear Nw2
      have BL_9 := Lib.hid (BL_4.out.trans (bw3.mono (by omega)))
      clear BL_4 bw3
      go_wp2_with fail
      refine (sameGrid_any _ _ _ _ _ _ (G0) _ (L_8.out) (Nw3.out)).mono ?_
      intro e w4 hq
      obtain ⟨rfl, bw4⟩ := hq.below
      clear hq
      have sw4 : w3.heap.size ≤ w4.heap.size := bw4.size
      have L_10 := Lib.hid (L_6.out.same (SameIn.below bw4 (by omega)))
      clear L_6
      have L_11 := Lib.hid (L_7.out.same (SameIn.below bw4 (by omega)))
      clear L_7
      have L_12 := Lib.hid (L_8.out.same (SameIn.below bw4 (by omega)))
      clear L_8
      have L_13 := Lib.hid (Nw3.out.same (SameIn.below bw4 (by omega)))
      clear Nw3
      have BL_14 := Lib.hid (BL_9.out.trans (bw4.mono (by omega)))
      clear BL_9 bw4
      go_wp2_with fail
      refine (sameGrid_any _ _ _ _ _ _ (G0) _ (L_12.out) (L_13.out)).mono ?_
      intro e w5 hq
      obtain ⟨rfl, bw5⟩ := hq.below
      clear hq
      have sw5 : w4.heap.size ≤ w5.heap.size := bw5.size
      have L_15 := Lib.hid (L_10.out.same (SameIn.below bw5 (by omega)))
      clear L_10
      have L_16 := Lib.hid (L_11.out.same (SameIn.below bw5 (by omega)))
      clear L_11
      have L_17 := Lib.hid (L_12.out.same (SameIn.below bw5 (by omega)))
      clear L_12
      have L_18 := Lib.hid (L_13.out.same (SameIn.below bw5 (by omega)))
      clear L_13
      have BL_19 := Lib.hid (BL_14.out.trans (bw5.mono (by omega)))
      clear BL_14 bw5
      go_wp2
      go_ret
      exact ⟨rfl, BL_19.out⟩
    case pos =>
      have HOK := Lib.hid hok
      have HVA := Lib.hid hok.1
      have HVB := Lib.hid hok.2.1
      have HVO := Lib.hid hok.2.2
      have hnn := (blw_facts hok).1
      have hw7 := (blw_facts hok).2
      have hla1 := hok.1.2.1.1
      have hla7 := hok.1.2.1.2
      have HL0 := Lib.hid (blw_len0 hok)
      obtain ⟨al, eal⟩ : ∃ al, a.len 0 = al := ⟨_, rfl⟩
      obtain ⟨bl, ebl⟩ : ∃ bl, b.len 0 = bl := ⟨_, rfl⟩
      have EAL := Lib.hid eal
      have EBL := Lib.hid ebl
      clear hok
      have hal : al ≤ 7 := by omega
      have hal1 : 1 ≤ al := by omega
      clear eal ebl hla1 hla7 hnn
      go_wp2_with fail
      refine (((implGridBelow_any _ _ 0 w1.heap.size a b _ (R_a.out.mono (Nat.zero_le _) (by omega)) (R_b.out.mono (Nat.zero_le _) (by omega)) (Nat.le_refl _)).mono fun _ _ hp => hp.1 HOK.out)).mono ?_
      rintro e w2 ⟨r_1, rfl, ⟨_, _, _, rfl⟩, ow2, bw2⟩
      have Nw2 := Lib.hid (ow2.rd)
      clear ow2
      have sw2 : w1.heap.size ≤ w2.heap.size := bw2.size
      have L_2 := Lib.hid (R_a.out.same (SameIn.below bw2 (by omega)))
      clear R_a
      have L_3 := Lib.hid (R_b.out.same (SameIn.below bw2 (by omega)))
      clear R_b
      have BL_4 := Lib.hid (BL.out.trans (bw2.mono (by omega)))
      clear BL bw2
      go_wp2_with fail
      refine (((specGridBelow_any _ _ 0 w2.heap.size a b _ (L_2.out.mono (Nat.zero_le _) (by omega)) (L_3.out.mono (Nat.zero_le _) (by omega)) (Nat.le_refl _) (by omega) (fun r hr => Nat.le_trans (HLA.out r hr) (by omega)) (by omega) (fun r hr => Nat.le_trans (HLB.out r hr) (by omega))).mono fun _ _ hp => hp.1 HOK.out)).mono ?_
      rintro e w3 ⟨r_5, rfl, ⟨_, _, _, rfl⟩, ow3, bw3⟩
      have Nw3 := Lib.hid (ow3)
      clear ow3
      have sw3 : w2.heap.size ≤ w3.heap.size := bw3.size
      have L_6 := Lib.hid (L_2.out.same (SameIn.below bw3 (by omega)))
      clear L_2
      have L_7 := Lib.hid (L_3.out.same (SameIn.below bw3 (by omega)))
      clear L_3
      have L_8 := Lib.hid (Nw2.out.same (SameIn.below bw3 (by omega)))
      clear Nw2
      have BL_9 := Lib.hid (BL_4.out.trans (bw3.mono (by omega)))
      clear BL_4 bw3
      go_wp2_with fail
      refine (sameGrid_any _ _ _ _ _ _ (belowG a b) _ (L_8.out) (Nw3.out)).mono ?_
      intro e w4 hq
      obtain ⟨rfl, bw4⟩ := hq.below
      clear hq
      have sw4 : w3.heap.size ≤ w4.heap.size := bw4.size
      have L_10 := Lib.hid (L_6.out.same (SameIn.below bw4 (by omega)))
      clear L_6
      have L_11 := Lib.hid (L_7.out.same (SameIn.below bw4 (by omega)))
      clear L_7
      have L_12 := Lib.hid (L_8.out.same (SameIn.below bw4 (by omega)))
      clear L_8
      have L_13 := Lib.hid (Nw3.out.same (SameIn.below bw4 (by omega)))
      clear Nw3
      have BL_14 := Lib.hid (BL_9.out.trans (bw4.mono (by omega)))
      clear BL_9 bw4
      obtain ⟨ha1, ha2, ha3⟩ := L_10.out.head (by omega) al EAL.out
      go_wp2_with fail
      refine ((part_at _ 0 w4.heap.size (belowG a b) _ _ _ _ (0) (a.n - 1) (0) (a.len 0 - 1) _ (L_12.out.mono (Nat.zero_le _) (by omega)) (Nat.le_refl _) (part_ok HVO.out (by omega) (show a.n - 1 < a.n + b.n by omega) (by omega) (by rw [HL0.out]; have := EAL.out; omega)) (by first | rfl | (have := EAL.out; have := EBL.out; omega)) (by first | rfl | (have := EAL.out; have := EBL.out; omega)) (by first | rfl | (have := EAL.out; have := EBL.out; omega)) (by first | rfl | (have := EAL.out; have := EBL.out; omega)))).mono ?_
      rintro e w5 ⟨r_15, rfl, ⟨_, _, _, rfl⟩, ow5, bw5⟩
      have Nw5 := Lib.hid (ow5.rd)
      clear ow5
      have sw5 : w4.heap.size ≤ w5.heap.size := bw5.size
      have L_16 := Lib.hid (L_10.out.same (SameIn.below bw5 (by omega)))
      clear L_10
      have L_17 := Lib.hid (L_11.out.same (SameIn.below bw5 (by omega)))
      clear L_11
      have L_18 := Lib.hid (L_12.out.same (SameIn.below bw5 (by omega)))
      clear L_12
      have BL_19 := Lib.hid (BL_14.out.trans (bw5.mono (by omega)))
      clear BL_14 bw5
      clear ha3
      obtain ⟨hb1, hb2, hb3⟩ := L_16.out.head (by omega) al EAL.out
      go_wp2_with fail
      refine ((part_at _ 0 w5.heap.size (belowG a b) _ _ _ _ (a.n) (a.n + b.n - 1) (0) (a.len 0 - 1) _ (L_18.out.mono (Nat.zero_le _) (by omega)) (Nat.le_refl _) (part_ok HVO.out (by omega) (show a.n + b.n - 1 < a.n + b.n by omega) (by omega) (by rw [HL0.out]; have := EAL.out; omega)) (by first | rfl | (have := EAL.out; have := EBL.out; omega)) (by first | rfl | (have := EAL.out; have := EBL.out; omega)) (by first | rfl | (have := EAL.out; have := EBL.out; omega)) (by first | rfl | (have := EAL.out; have := EBL.out; omega)))).mono ?_
      rintro e w6 ⟨r_20, rfl, ⟨_, _, _, rfl⟩, ow6, bw6⟩
      have Nw6 := Lib.hid (ow6.rd)
      clear ow6
      have sw6 : w5.heap.size ≤ w6.heap.size := bw6.size
      have L_21 := Lib.hid (L_16.out.same (SameIn.below bw6 (by omega)))
      clear L_16
      have L_22 := Lib.hid (L_17.out.same (SameIn.below bw6 (by omega)))
      clear L_17
      have L_23 := Lib.hid (L_18.out.same (SameIn.below bw6 (by omega)))
      clear L_18
      have L_24 := Lib.hid (Nw5.out.same (SameIn.below bw6 (by omega)))
      clear Nw5
      have BL_25 := Lib.hid (BL_19.out.trans (bw6.mono (by omega)))
      clear BL_19 bw6
      go_wp2_with fail
      refine (implGridTurn_yes _ 0 w6.heap.size (a) _ (L_21.out.mono (Nat.zero_le _) (by omega)) (Nat.le_refl _) HVA.out).mono ?_
      rintro e w7 ⟨r_26, rfl, ⟨_, _, _, rfl⟩, ow7, bw7⟩
      have Nw7 := Lib.hid (ow7.rd)
      clear ow7
      have sw7 : w6.heap.size ≤ w7.heap.size := bw7.size
      have L_27 := Lib.hid (L_21.out.same (SameIn.below bw7 (by omega)))
      clear L_21
      have L_28 := Lib.hid (L_22.out.same (SameIn.below bw7 (by omega)))
      clear L_22
      have L_29 := Lib.hid (L_23.out.same (SameIn.below bw7 (by omega)))
      clear L_23
      have L_30 := Lib.hid (L_24.out.same (SameIn.below bw7 (by omega)))
      clear L_24
      have L_31 := Lib.hid (Nw6.out.same (SameIn.below bw7 (by omega)))
      clear Nw6
      have BL_32 := Lib.hid (BL_25.out.trans (bw7.mono (by omega)))
      clear BL_25 bw7
      go_wp2_with fail
      refine (implGridTurn_yes _ 0 w7.heap.size (b) _ (L_28.out.mono (Nat.zero_le _) (by omega)) (Nat.le_refl _) HVB.out).mono ?_
      rintro e w8 ⟨r_33, rfl, ⟨_, _, _, rfl⟩, ow8, bw8⟩
      have Nw8 := Lib.hid (ow8.rd)
      clear ow8
      have sw8 : w7.heap.size ≤ w8.heap.size := bw8.size
      have L_34 := Lib.hid (L_27.out.same (SameIn.below bw8 (by omega)))
      clear L_27
      have L_35 := Lib.hid (L_28.out.same (SameIn.below bw8 (by omega)))
      clear L_28
      have L_36 := Lib.hid (L_29.out.same (SameIn.below bw8 (by omega)))
      clear L_29
      have L_37 := Lib.hid (L_30.out.same (SameIn.below bw8 (by omega)))
      clear L_30
      have L_38 := Lib.hid (L_31.out.same (SameIn.below bw8 (by omega)))
      clear L_31
      have L_39 := Lib.hid (Nw7.out.same (SameIn.below bw8 (by omega)))
      clear Nw7
      have BL_40 := Lib.hid (BL_32.out.trans (bw8.mono (by omega)))
      clear BL_32 bw8
      go_wp2_with fail
      refine (implGridTurn_yes _ 0 w8.heap.size (belowG a b) _ (L_36.out.mono (Nat.zero_le _) (by omega)) (Nat.le_refl _) HVO.out).mono ?_
      rintro e w9 ⟨r_41, rfl, ⟨_, _, _, rfl⟩, ow9, bw9⟩
      have Nw9 := Lib.hid (ow9.rd)
      clear ow9
      have sw9 : w8.heap.size ≤ w9.heap.size := bw9.size
      have L_42 := Lib.hid (L_34.out.same (SameIn.below bw9 (by omega)))
      clear L_34
      have L_43 := Lib.hid (L_35.out.same (SameIn.below bw9 (by omega)))
      clear L_35
      have L_44 := Lib.hid (L_36.out.same (SameIn.below bw9 (by omega)))
      clear L_36
      have L_45 := Lib.hid (L_37.out.same (SameIn.below bw9 (by omega)))
      clear L_37
      have L_46 := Lib.hid (L_38.out.same (SameIn.below bw9 (by omega)))
      clear L_38
      have L_47 := Lib.hid (L_39.out.same (SameIn.below bw9 (by omega)))
      clear L_39
      have L_48 := Lib.hid (Nw8.out.same (SameIn.below bw9 (by omega)))
      clear Nw8
      have BL_49 := Lib.hid (BL_40.out.trans (bw9.mono (by omega)))
      clear BL_40 bw9
      go_wp2_with fail
      refine (((implGridBeside_any _ _ 0 w9.heap.size (turnG b) (turnG a) _ (L_48.out.mono (Nat.zero_le _) (by omega)) (L_47.out.mono (Nat.zero_le _) (by omega)) (Nat.le_refl _)).mono fun _ _ hp => hp.1 (blw_turn_ok HOK.out))).mono ?_
      rintro e w10 ⟨r_50, rfl, ⟨_, _, _, rfl⟩, ow10, bw10⟩
      have Nw10 := Lib.hid (ow10.rd)
      clear ow10
      have sw10 : w9.heap.size ≤ w10.heap.size := bw10.size
      have L_51 := Lib.hid (L_42.out.same (SameIn.below bw10 (by omega)))
      clear L_42
      have L_52 := Lib.hid (L_43.out.same (SameIn.below bw10 (by omega)))
      clear L_43
      have L_53 := Lib.hid (L_44.out.same (SameIn.below bw10 (by omega)))
      clear L_44
      have L_54 := Lib.hid (L_45.out.same (SameIn.below bw10 (by omega)))
      clear L_45
      have L_55 := Lib.hid (L_46.out.same (SameIn.below bw10 (by omega)))
      clear L_46
      have L_56 := Lib.hid (L_47.out.same (SameIn.below bw10 (by omega)))
      clear L_47
      have L_57 := Lib.hid (L_48.out.same (SameIn.below bw10 (by omega)))
      clear L_48
      have L_58 := Lib.hid (Nw9.out.same (SameIn.below bw10 (by omega)))
      clear Nw9
      have BL_59 := Lib.hid (BL_49.out.trans (bw10.mono (by omega)))
      clear BL_49 bw10
      go_wp2_with fail
      refine (sameGrid_any _ _ _ _ _ _ (a) _ (L_54.out.congr (blw_north HOK.out)) (L_51.out)).mono ?_
      intro e w11 hq
      obtain ⟨rfl, bw11⟩ := hq.below
      clear hq
      have sw11 : w10.heap.size ≤ w11.heap.size := bw11.size
      have L_60 := Lib.hid (L_51.out.same (SameIn.below bw11 (by omega)))
      clear L_51
      have L_61 := Lib.hid (L_52.out.same (SameIn.below bw11 (by omega)))
      clear L_52
      have L_62 := Lib.hid (L_54.out.same (SameIn.below bw11 (by omega)))
      clear L_54
      have L_63 := Lib.hid (L_55.out.same (SameIn.below bw11 (by omega)))
      clear L_55
      have L_64 := Lib.hid (L_58.out.same (SameIn.below bw11 (by omega)))
      clear L_58
      have L_65 := Lib.hid (Nw10.out.same (SameIn.below bw11 (by omega)))
      clear Nw10
      have BL_66 := Lib.hid (BL_59.out.trans (bw11.mono (by omega)))
      clear BL_59 bw11
      go_wp2_with fail
      refine (sameGrid_any _ _ _ _ _ _ (b) _ (L_63.out.congr (blw_south HOK.out)) (L_61.out)).mono ?_
      intro e w12 hq
      obtain ⟨rfl, bw12⟩ := hq.below
      clear hq
      have sw12 : w11.heap.size ≤ w12.heap.size := bw12.size
      have L_67 := Lib.hid (L_60.out.same (SameIn.below bw12 (by omega)))
      clear L_60
      have L_68 := Lib.hid (L_61.out.same (SameIn.below bw12 (by omega)))
      clear L_61
      have L_69 := Lib.hid (L_62.out.same (SameIn.below bw12 (by omega)))
      clear L_62
      have L_70 := Lib.hid (L_63.out.same (SameIn.below bw12 (by omega)))
      clear L_63
      have L_71 := Lib.hid (L_64.out.same (SameIn.below bw12 (by omega)))
      clear L_64
      have L_72 := Lib.hid (L_65.out.same (SameIn.below bw12 (by omega)))
      clear L_65
      have BL_73 := Lib.hid (BL_66.out.trans (bw12.mono (by omega)))
      clear BL_66 bw12
      go_wp2_with fail
      refine (sameGrid_any _ _ _ _ _ _ (turnG (belowG a b)) _ (L_72.out.congr (blw_turn HOK.out)) (L_71.out)).mono ?_
      intro e w13 hq
      obtain ⟨rfl, bw13⟩ := hq.below
      clear hq
      have sw13 : w12.heap.size ≤ w13.heap.size := bw13.size
      have L_74 := Lib.hid (L_67.out.same (SameIn.below bw13 (by omega)))
      clear L_67
      have L_75 := Lib.hid (L_68.out.same (SameIn.below bw13 (by omega)))
      clear L_68
      have L_76 := Lib.hid (L_69.out.same (SameIn.below bw13 (by omega)))
      clear L_69
      have L_77 := Lib.hid (L_70.out.same (SameIn.below bw13 (by omega)))
      clear L_70
      have L_78 := Lib.hid (L_71.out.same (SameIn.below bw13 (by omega)))
      clear L_71
      have L_79 := Lib.hid (L_72.out.same (SameIn.below bw13 (by omega)))
      clear L_72
      have BL_80 := Lib.hid (BL_73.out.trans (bw13.mono (by omega)))
      clear BL_73 bw13
      go_wp2
      go_ret
      exact ⟨rfl, BL_80.out⟩
end Go.Proofs.Ytdiehjigfmjjiaa

