/- The exact law of FixesMake: its walk, out of the two functions' contracts. -/
import Derived.Test.YtehgbopgfloejaaEg
import Derived.Test.YtehgbopgfloejaaFb
import Derived.Test.YtehgbopgfloejaaHelp2
namespace Go.Proofs.Ytehgbopgfloejaa
open Go.RowKit
set_option linter.unusedVariables false

set_option maxRecDepth 20000 in
set_option maxHeartbeats 8000000 in
theorem law_FnExactFixesMake (v0 : Value) (g0 : G) (v1 : Value) (g1 : G) (w : World) (b : Bool) (n : Nat) (z : Nat → Int) (hv0 : RdM 0 w.heap.size w v0 g0) (hv1 : RdM 0 w.heap.size w v1 g1)
    (hspec :  ∀ (u0 : Value) (u1 : Value) (W : World), RdM 0 W.heap.size W u0 g0 → RdM 0 W.heap.size W u1 g1 → Calls Try.prog 31 #[u0, u1] W (TsPost b n z W))
    (himpl :  ∀ (u0 : Value) (u1 : Value) (W : World), RdM 0 W.heap.size W u0 g0 → RdM 0 W.heap.size W u1 g1 → Calls Try.prog 32 #[u0, u1] W (TgPost b n z W))
    (hn :  n ≤ 1048576)
    : Calls Try.prog 6 #[v0, v1] w (LawPost w) := by
  have A0 := Lib.hid hv0
  have A1 := Lib.hid hv1
  have HSP := Lib.hid hspec
  have HIM := Lib.hid himpl
  have HNN := Lib.hid hn
  have hx : (b != b) = false := by simp
  have BL := Lib.hid (Below.refl w.heap.size w)
  clear hspec himpl hn hv0 hv1 
  go_enter Try.func6, Try.ntmps6
  go_wp2_with fail
  refine (szIntSS_any v0 0 w.heap.size g0 _ 1048576 A0.out (by omega) (by omega)).mono ?_
  rintro e w' ⟨rfl | ⟨l0, l00, l01, rfl, n0, hl0⟩, rfl⟩
  · go_wp2
    go_ret
    exact ⟨rfl, Below.refl _ _⟩
  have HL0 := Lib.hid hl0
  clear hl0
  go_wp2_with fail
  refine (szIntSS_any v1 0 w.heap.size g1 _ l0 A1.out l00 l01).mono ?_
  rintro e w' ⟨rfl | ⟨l1, l10, l11, rfl, n1, hl1⟩, rfl⟩
  · go_wp2
    go_ret
    exact ⟨rfl, Below.refl _ _⟩
  have HL1 := Lib.hid hl1
  clear hl1
  have hn := HNN.out 
  clear HNN
  go_wp2_with fail
  refine (toIntSS_any v0 0 w.heap.size g0 _ A0.out n0 HL0.out (by omega)).mono ?_
  rintro e w1 ⟨rfl, ow1, bw1⟩
  have sw1 : w.heap.size ≤ w1.heap.size := bw1.size
  have L_1 := Lib.hid (A0.out.same (SameIn.below bw1 (by omega)))
  clear A0
  have L_2 := Lib.hid (A1.out.same (SameIn.below bw1 (by omega)))
  clear A1
  have O_3 := Lib.hid ow1
  have BL_4 := Lib.hid (BL.out.trans (bw1.mono (by omega)))
  clear BL
  clear ow1 bw1
  go_wp2_with fail
  refine (toIntSS_any v1 0 w.heap.size g1 _ L_2.out n1 HL1.out (by omega)).mono ?_
  rintro e w2 ⟨rfl, ow2, bw2⟩
  have sw2 : w1.heap.size ≤ w2.heap.size := bw2.size
  have L_5 := Lib.hid (L_1.out.same (SameIn.below bw2 (by omega)))
  clear L_1
  have L_6 := Lib.hid (L_2.out.same (SameIn.below bw2 (by omega)))
  clear L_2
  have L_7 := Lib.hid (O_3.out.same (SameIn.below bw2 (by omega)))
  clear O_3
  have O_8 := Lib.hid ow2
  have BL_9 := Lib.hid (BL_4.out.trans (bw2.mono (by omega)))
  clear BL_4
  clear ow2 bw2
  go_wp2_with fail
  refine (HSP.out  _ _ _ (L_7.out.rd.mono (Nat.zero_le _) (by omega)) (O_8.out.rd.mono (Nat.zero_le _) (by omega))).mono ?_
  rintro e w3 ⟨r_10, rfl, ⟨_, _, _, rfl⟩, ow3, bw3⟩
  have sw3 : w2.heap.size ≤ w3.heap.size := bw3.size
  have L_11 := Lib.hid (L_5.out.same (SameIn.below bw3 (by omega)))
  clear L_5
  have L_12 := Lib.hid (L_6.out.same (SameIn.below bw3 (by omega)))
  clear L_6
  have L_13 := Lib.hid (L_7.out.same (SameIn.below bw3 (by omega)))
  clear L_7
  have L_14 := Lib.hid (O_8.out.same (SameIn.below bw3 (by omega)))
  clear O_8
  have O_15 := Lib.hid ow3
  have BL_16 := Lib.hid (BL_9.out.trans (bw3.mono (by omega)))
  clear BL_9
  clear ow3 bw3
  go_wp2_with fail
  refine (toIntSS_any v0 0 w.heap.size g0 _ L_11.out n0 HL0.out (by omega)).mono ?_
  rintro e w4 ⟨rfl, ow4, bw4⟩
  have sw4 : w3.heap.size ≤ w4.heap.size := bw4.size
  have L_17 := Lib.hid (L_11.out.same (SameIn.below bw4 (by omega)))
  clear L_11
  have L_18 := Lib.hid (L_12.out.same (SameIn.below bw4 (by omega)))
  clear L_12
  have L_19 := Lib.hid (O_15.out.same (SameIn.below bw4 (by omega)))
  clear O_15
  have O_20 := Lib.hid ow4
  have BL_21 := Lib.hid (BL_16.out.trans (bw4.mono (by omega)))
  clear BL_16
  clear ow4 bw4
  go_wp2_with fail
  refine (toIntSS_any v1 0 w.heap.size g1 _ L_18.out n1 HL1.out (by omega)).mono ?_
  rintro e w5 ⟨rfl, ow5, bw5⟩
  have sw5 : w4.heap.size ≤ w5.heap.size := bw5.size
  have L_22 := Lib.hid (L_17.out.same (SameIn.below bw5 (by omega)))
  clear L_17
  have L_23 := Lib.hid (L_18.out.same (SameIn.below bw5 (by omega)))
  clear L_18
  have L_24 := Lib.hid (L_19.out.same (SameIn.below bw5 (by omega)))
  clear L_19
  have L_25 := Lib.hid (O_20.out.same (SameIn.below bw5 (by omega)))
  clear O_20
  have O_26 := Lib.hid ow5
  have BL_27 := Lib.hid (BL_21.out.trans (bw5.mono (by omega)))
  clear BL_21
  clear ow5 bw5
  go_wp2_with fail
  refine (HIM.out  _ _ _ (L_25.out.rd.mono (Nat.zero_le _) (by omega)) (O_26.out.rd.mono (Nat.zero_le _) (by omega))).mono ?_
  rintro e w6 ⟨r_28, rfl, ⟨_, _, _, rfl⟩, ow6, bw6⟩
  have sw6 : w5.heap.size ≤ w6.heap.size := bw6.size
  have L_29 := Lib.hid (L_22.out.same (SameIn.below bw6 (by omega)))
  clear L_22
  have L_30 := Lib.hid (L_23.out.same (SameIn.below bw6 (by omega)))
  clear L_23
  have L_31 := Lib.hid (L_24.out.same (SameIn.below bw6 (by omega)))
  clear L_24
  have L_32 := Lib.hid (L_25.out.same (SameIn.below bw6 (by omega)))
  clear L_25
  have L_33 := Lib.hid (O_26.out.same (SameIn.below bw6 (by omega)))
  clear O_26
  have O_34 := Lib.hid ow6
  have BL_35 := Lib.hid (BL_27.out.trans (bw6.mono (by omega)))
  clear BL_27
  clear ow6 bw6
  go_wp2_with fail
  refine (eqT_any _ _ _ _ _ _ n z z _ O_34.out.rd L_31.out (fun _ _ => rfl) (by omega) (by omega)).mono ?_
  rintro e w7 ⟨rfl, bw7⟩
  have sw7 : w6.heap.size ≤ w7.heap.size := bw7.size
  have L_36 := Lib.hid (L_29.out.same (SameIn.below bw7 (by omega)))
  clear L_29
  have L_37 := Lib.hid (L_30.out.same (SameIn.below bw7 (by omega)))
  clear L_30
  have L_38 := Lib.hid (L_31.out.same (SameIn.below bw7 (by omega)))
  clear L_31
  have L_39 := Lib.hid (L_32.out.same (SameIn.below bw7 (by omega)))
  clear L_32
  have L_40 := Lib.hid (L_33.out.same (SameIn.below bw7 (by omega)))
  clear L_33
  have L_41 := Lib.hid (O_34.out.same (SameIn.below bw7 (by omega)))
  clear O_34
  have BL_42 := Lib.hid (BL_35.out.trans (bw7.mono (by omega)))
  clear BL_35
  clear bw7
  go_wp2_with fail
  refine (toIntSS_any v0 0 w.heap.size g0 _ L_36.out n0 HL0.out (by omega)).mono ?_
  rintro e w8 ⟨rfl, ow8, bw8⟩
  have sw8 : w7.heap.size ≤ w8.heap.size := bw8.size
  have L_43 := Lib.hid (L_36.out.same (SameIn.below bw8 (by omega)))
  clear L_36
  have L_44 := Lib.hid (L_37.out.same (SameIn.below bw8 (by omega)))
  clear L_37
  have L_45 := Lib.hid (L_38.out.same (SameIn.below bw8 (by omega)))
  clear L_38
  have L_46 := Lib.hid (L_39.out.same (SameIn.below bw8 (by omega)))
  clear L_39
  have L_47 := Lib.hid (L_40.out.same (SameIn.below bw8 (by omega)))
  clear L_40
  have L_48 := Lib.hid (L_41.out.same (SameIn.below bw8 (by omega)))
  clear L_41
  have O_49 := Lib.hid ow8
  have BL_50 := Lib.hid (BL_42.out.trans (bw8.mono (by omega)))
  clear BL_42
  clear ow8 bw8
  go_wp2_with fail
  refine (eqIntSS_any _ _ _ _ _ _ g0 _ L_46.out.rd O_49.out.rd).mono ?_
  intro e w9 hq
  obtain ⟨rfl, bw9⟩ := hq.below
  clear hq
  have sw9 : w8.heap.size ≤ w9.heap.size := bw9.size
  have L_51 := Lib.hid (L_43.out.same (SameIn.below bw9 (by omega)))
  clear L_43
  have L_52 := Lib.hid (L_44.out.same (SameIn.below bw9 (by omega)))
  clear L_44
  have L_53 := Lib.hid (L_45.out.same (SameIn.below bw9 (by omega)))
  clear L_45
  have L_54 := Lib.hid (L_46.out.same (SameIn.below bw9 (by omega)))
  clear L_46
  have L_55 := Lib.hid (L_47.out.same (SameIn.below bw9 (by omega)))
  clear L_47
  have L_56 := Lib.hid (L_48.out.same (SameIn.below bw9 (by omega)))
  clear L_48
  have L_57 := Lib.hid (O_49.out.same (SameIn.below bw9 (by omega)))
  clear O_49
  have BL_58 := Lib.hid (BL_50.out.trans (bw9.mono (by omega)))
  clear BL_50
  clear bw9
  go_wp2_with fail
  refine (toIntSS_any v1 0 w.heap.size g1 _ L_52.out n1 HL1.out (by omega)).mono ?_
  rintro e w10 ⟨rfl, ow10, bw10⟩
  have sw10 : w9.heap.size ≤ w10.heap.size := bw10.size
  have L_59 := Lib.hid (L_51.out.same (SameIn.below bw10 (by omega)))
  clear L_51
  have L_60 := Lib.hid (L_52.out.same (SameIn.below bw10 (by omega)))
  clear L_52
  have L_61 := Lib.hid (L_53.out.same (SameIn.below bw10 (by omega)))
  clear L_53
  have L_62 := Lib.hid (L_54.out.same (SameIn.below bw10 (by omega)))
  clear L_54
  have L_63 := Lib.hid (L_55.out.same (SameIn.below bw10 (by omega)))
  clear L_55
  have L_64 := Lib.hid (L_56.out.same (SameIn.below bw10 (by omega)))
  clear L_56
  have O_65 := Lib.hid ow10
  have BL_66 := Lib.hid (BL_58.out.trans (bw10.mono (by omega)))
  clear BL_58
  clear ow10 bw10
  go_wp2_with fail
  refine (eqIntSS_any _ _ _ _ _ _ g1 _ L_63.out.rd O_65.out.rd).mono ?_
  intro e w11 hq
  obtain ⟨rfl, bw11⟩ := hq.below
  clear hq
  have sw11 : w10.heap.size ≤ w11.heap.size := bw11.size
  have L_67 := Lib.hid (L_59.out.same (SameIn.below bw11 (by omega)))
  clear L_59
  have L_68 := Lib.hid (L_60.out.same (SameIn.below bw11 (by omega)))
  clear L_60
  have L_69 := Lib.hid (L_61.out.same (SameIn.below bw11 (by omega)))
  clear L_61
  have L_70 := Lib.hid (L_62.out.same (SameIn.below bw11 (by omega)))
  clear L_62
  have L_71 := Lib.hid (L_63.out.same (SameIn.below bw11 (by omega)))
  clear L_63
  have L_72 := Lib.hid (L_64.out.same (SameIn.below bw11 (by omega)))
  clear L_64
  have L_73 := Lib.hid (O_65.out.same (SameIn.below bw11 (by omega)))
  clear O_65
  have BL_74 := Lib.hid (BL_66.out.trans (bw11.mono (by omega)))
  clear BL_66
  clear bw11
  go_wp2_with fail
  refine (markIntSS_big _ _ _ g0 (1) _ L_70.out (by omega) (by omega) n0 HL0.out).mono ?_
  rintro e w12 ⟨rfl, ow12, cw12, zw12⟩
  have sw12 : w11.heap.size ≤ w12.heap.size := cw12.size
  clear zw12
  have L_75 := Lib.hid (L_67.out.same (cw12.sameIn (by omega) (by omega)))
  clear L_67
  have L_76 := Lib.hid (L_68.out.same (cw12.sameIn (by omega) (by omega)))
  clear L_68
  have L_77 := Lib.hid (L_69.out.same (cw12.sameIn (by omega) (by omega)))
  clear L_69
  have L_78 := Lib.hid (L_71.out.same (cw12.sameIn (by omega) (by omega)))
  clear L_71
  have L_79 := Lib.hid (L_72.out.same (cw12.sameIn (by omega) (by omega)))
  clear L_72
  have BL_80 := Lib.hid (BL_74.out.trans (cw12.below (by omega) (by omega)))
  clear BL_74
  clear ow12 cw12 L_70
  have hoff0 := g0.off_n n0 HL0.out
  go_wp2_with fail
  refine (markIntSS_big _ _ _ g1 (1 + (g0.off g0.n : Int)) _ L_78.out (by omega) (by omega) n1 HL1.out).mono ?_
  rintro e w13 ⟨rfl, ow13, cw13, zw13⟩
  have sw13 : w12.heap.size ≤ w13.heap.size := cw13.size
  clear zw13
  have L_81 := Lib.hid (L_75.out.same (cw13.sameIn (by omega) (by omega)))
  clear L_75
  have L_82 := Lib.hid (L_76.out.same (cw13.sameIn (by omega) (by omega)))
  clear L_76
  have L_83 := Lib.hid (L_77.out.same (cw13.sameIn (by omega) (by omega)))
  clear L_77
  have L_84 := Lib.hid (L_79.out.same (cw13.sameIn (by omega) (by omega)))
  clear L_79
  have BL_85 := Lib.hid (BL_80.out.trans (cw13.below (by omega) (by omega)))
  clear BL_80
  clear ow13 cw13 L_78
  have hoff1 := g1.off_n n1 HL1.out
  have hkk : ¬ (1 + (g0.off g0.n : Int) + (g1.off g1.n : Int) < (0 : Int)) := by omega
  go_wp2_with fail
  refine (eqT_any _ _ _ _ _ _ n z z _ L_84.out.rd L_83.out (fun _ _ => rfl) (by omega) (by omega)).mono ?_
  rintro e w14 ⟨rfl, bw14⟩
  have sw14 : w13.heap.size ≤ w14.heap.size := bw14.size
  have L_86 := Lib.hid (L_81.out.same (SameIn.below bw14 (by omega)))
  clear L_81
  have L_87 := Lib.hid (L_82.out.same (SameIn.below bw14 (by omega)))
  clear L_82
  have L_88 := Lib.hid (L_83.out.same (SameIn.below bw14 (by omega)))
  clear L_83
  have L_89 := Lib.hid (L_84.out.same (SameIn.below bw14 (by omega)))
  clear L_84
  have BL_90 := Lib.hid (BL_85.out.trans (bw14.mono (by omega)))
  clear BL_85
  clear bw14
  have hqq : ¬ ((1 : Int) + (n : Int) * 4 < 0) := by omega
  have hqx : ((1 : Int) + (n : Int) * 4 != 1 + (n : Int) * 4) = false := by simp
  go_wp2_with fail
  refine (markT_any _ _ _ n z (1) _ L_89.out (by omega) (by omega) hn).mono ?_
  rintro e w15 ⟨rfl, ow15, cw15, zw15⟩
  have sw15 : w14.heap.size ≤ w15.heap.size := cw15.size
  clear zw15
  have L_91 := Lib.hid (L_86.out.same (cw15.sameIn (by omega) (by omega)))
  clear L_86
  have L_92 := Lib.hid (L_87.out.same (cw15.sameIn (by omega) (by omega)))
  clear L_87
  have L_93 := Lib.hid (L_88.out.same (cw15.sameIn (by omega) (by omega)))
  clear L_88
  have BL_94 := Lib.hid (BL_90.out.trans (cw15.below (by omega) (by omega)))
  clear BL_90
  have M_95 := Lib.hid ow15
  clear ow15 cw15 L_89
  go_wp2_with fail
  refine (heldT_any _ _ _ n _ M_95.out hn).mono ?_
  rintro e w' ⟨rfl, rfl⟩
  go_wp2_with fail
  refine (toIntSS_any v0 0 w.heap.size g0 _ L_91.out n0 HL0.out (by omega)).mono ?_
  rintro e w16 ⟨rfl, ow16, bw16⟩
  have sw16 : w15.heap.size ≤ w16.heap.size := bw16.size
  have L_96 := Lib.hid (L_91.out.same (SameIn.below bw16 (by omega)))
  clear L_91
  have L_97 := Lib.hid (L_92.out.same (SameIn.below bw16 (by omega)))
  clear L_92
  have L_98 := Lib.hid (L_93.out.same (SameIn.below bw16 (by omega)))
  clear L_93
  have L_99 := Lib.hid (M_95.out.same (SameIn.below bw16 (by omega)))
  clear M_95
  have O_100 := Lib.hid ow16
  have BL_101 := Lib.hid (BL_94.out.trans (bw16.mono (by omega)))
  clear BL_94
  clear ow16 bw16
  go_wp2_with fail
  refine (toIntSS_any v1 0 w.heap.size g1 _ L_97.out n1 HL1.out (by omega)).mono ?_
  rintro e w17 ⟨rfl, ow17, bw17⟩
  have sw17 : w16.heap.size ≤ w17.heap.size := bw17.size
  have L_102 := Lib.hid (L_96.out.same (SameIn.below bw17 (by omega)))
  clear L_96
  have L_103 := Lib.hid (L_97.out.same (SameIn.below bw17 (by omega)))
  clear L_97
  have L_104 := Lib.hid (L_98.out.same (SameIn.below bw17 (by omega)))
  clear L_98
  have L_105 := Lib.hid (L_99.out.same (SameIn.below bw17 (by omega)))
  clear L_99
  have L_106 := Lib.hid (O_100.out.same (SameIn.below bw17 (by omega)))
  clear O_100
  have O_107 := Lib.hid ow17
  have BL_108 := Lib.hid (BL_101.out.trans (bw17.mono (by omega)))
  clear BL_101
  clear ow17 bw17
  go_wp2_with fail
  refine (HIM.out  _ _ _ (L_106.out.rd.mono (Nat.zero_le _) (by omega)) (O_107.out.rd.mono (Nat.zero_le _) (by omega))).mono ?_
  rintro e w18 ⟨r_109, rfl, ⟨_, _, _, rfl⟩, ow18, bw18⟩
  have sw18 : w17.heap.size ≤ w18.heap.size := bw18.size
  have L_110 := Lib.hid (L_102.out.same (SameIn.below bw18 (by omega)))
  clear L_102
  have L_111 := Lib.hid (L_103.out.same (SameIn.below bw18 (by omega)))
  clear L_103
  have L_112 := Lib.hid (L_104.out.same (SameIn.below bw18 (by omega)))
  clear L_104
  have L_113 := Lib.hid (L_105.out.same (SameIn.below bw18 (by omega)))
  clear L_105
  have L_114 := Lib.hid (L_106.out.same (SameIn.below bw18 (by omega)))
  clear L_106
  have L_115 := Lib.hid (O_107.out.same (SameIn.below bw18 (by omega)))
  clear O_107
  have O_116 := Lib.hid ow18
  have BL_117 := Lib.hid (BL_108.out.trans (bw18.mono (by omega)))
  clear BL_108
  clear ow18 bw18
  go_wp2_with fail
  refine (eqT_any _ _ _ _ _ _ n z z _ O_116.out.rd L_112.out (fun _ _ => rfl) (by omega) (by omega)).mono ?_
  rintro e w19 ⟨rfl, bw19⟩
  have sw19 : w18.heap.size ≤ w19.heap.size := bw19.size
  have L_118 := Lib.hid (L_110.out.same (SameIn.below bw19 (by omega)))
  clear L_110
  have L_119 := Lib.hid (L_111.out.same (SameIn.below bw19 (by omega)))
  clear L_111
  have L_120 := Lib.hid (L_112.out.same (SameIn.below bw19 (by omega)))
  clear L_112
  have L_121 := Lib.hid (L_113.out.same (SameIn.below bw19 (by omega)))
  clear L_113
  have L_122 := Lib.hid (L_114.out.same (SameIn.below bw19 (by omega)))
  clear L_114
  have L_123 := Lib.hid (L_115.out.same (SameIn.below bw19 (by omega)))
  clear L_115
  have L_124 := Lib.hid (O_116.out.same (SameIn.below bw19 (by omega)))
  clear O_116
  have BL_125 := Lib.hid (BL_117.out.trans (bw19.mono (by omega)))
  clear BL_117
  clear bw19
  go_wp2_with fail
  refine (heldT_any _ _ _ n _ L_121.out hn).mono ?_
  rintro e w' ⟨rfl, rfl⟩
  go_wp2
  go_ret
  exact ⟨rfl, BL_125.out⟩

end Go.Proofs.Ytehgbopgfloejaa
