/- The exact law of ThinDrop: its walk, out of the two functions' contracts. -/
import Derived.Test.YtjepmnngphlgoaaPrM
import Derived.Test.YtjepmnngphlgoaaPrM
namespace Go.Proofs.Ytjepmnngphlgoaa
open Go.RowKit
set_option linter.unusedVariables false

set_option maxRecDepth 20000 in
set_option maxHeartbeats 8000000 in
theorem law_FnExactThinDrop (v0 : Value) (n0 : Nat) (z0 : Nat → Int) (v1 : Value) (n1 : Nat) (z1 : Nat → Int) (a2 : Int) (w : World) (b : Bool) (n : Nat) (z : Nat → Int) (hv0 : RdI 0 w.heap.size w v0 n0 z0) (hv1 : RdI 0 w.heap.size w v1 n1 z1)
    (hspec : n0 ≤ 1048576 → n1 ≤ 1048576 → ∀ (u0 : Value) (u1 : Value) (W : World), RdI 0 W.heap.size W u0 n0 z0 → RdI 0 W.heap.size W u1 n1 z1 → Calls Try.prog 36 #[u0, u1, .int .i64 a2] W (LsPost b n z W))
    (himpl : n0 ≤ 1048576 → n1 ≤ 1048576 → ∀ (u0 : Value) (u1 : Value) (W : World), RdI 0 W.heap.size W u0 n0 z0 → RdI 0 W.heap.size W u1 n1 z1 → Calls Try.prog 37 #[u0, u1, .int .i64 a2] W (LgPost b n z W))
    (hn : n0 ≤ 1048576 → n1 ≤ 1048576 → n ≤ 1048576)
    : Calls Try.prog 12 #[v0, v1, .int .i64 a2] w (LawPost w) := by
  obtain ⟨va0, vc0, rfl⟩ := hv0.shape
  obtain ⟨va1, vc1, rfl⟩ := hv1.shape
  by_cases hbig0 : n0 ≤ 1048576
  case neg =>
    have hbig0' : (1048576 : Int) < n0 := by omega
    clear hspec himpl hv0 hv1 hn
    go_enter Try.func12, Try.ntmps12
    go_wp2
    go_ret
    exact ⟨rfl, Below.refl _ _⟩
  have hbig0' : ¬ (1048576 : Int) < n0 := by omega
  by_cases hbig1 : n1 ≤ 1048576
  case neg =>
    have hbig1' : (1048576 : Int) < n1 := by omega
    clear hspec himpl hv0 hv1 hn
    go_enter Try.func12, Try.ntmps12
    go_wp2
    go_ret
    exact ⟨rfl, Below.refl _ _⟩
  have hbig1' : ¬ (1048576 : Int) < n1 := by omega
  have HSP := Lib.hid (hspec hbig0 hbig1)
  have HIM := Lib.hid (himpl hbig0 hbig1)
  have hn := hn hbig0 hbig1
  have hx : (b != b) = false := by simp
  have A0 := Lib.hid hv0
  have A1 := Lib.hid hv1
  have BL := Lib.hid (Below.refl w.heap.size w)
  clear hspec himpl hv0 hv1
  go_enter Try.func12, Try.ntmps12
  go_wp2_with fail
  refine (toL_any _ 0 w.heap.size n0 z0 _ A0.out hbig0 (by omega)).mono ?_
  rintro e w1 ⟨r_1, rfl, ⟨_, _, _, rfl⟩, ow1, bw1⟩
  have sw1 : w.heap.size ≤ w1.heap.size := bw1.size
  have L_2 := Lib.hid (A0.out.same (SameIn.below bw1 (by omega)))
  clear A0
  have L_3 := Lib.hid (A1.out.same (SameIn.below bw1 (by omega)))
  clear A1
  have O_4 := Lib.hid ow1
  have BL_5 := Lib.hid (BL.out.trans (bw1.mono (by omega)))
  clear BL
  clear ow1 bw1
  go_wp2_with fail
  refine (toL_any _ 0 w.heap.size n1 z1 _ L_3.out hbig1 (by omega)).mono ?_
  rintro e w2 ⟨r_6, rfl, ⟨_, _, _, rfl⟩, ow2, bw2⟩
  have sw2 : w1.heap.size ≤ w2.heap.size := bw2.size
  have L_7 := Lib.hid (L_2.out.same (SameIn.below bw2 (by omega)))
  clear L_2
  have L_8 := Lib.hid (L_3.out.same (SameIn.below bw2 (by omega)))
  clear L_3
  have L_9 := Lib.hid (O_4.out.same (SameIn.below bw2 (by omega)))
  clear O_4
  have O_10 := Lib.hid ow2
  have BL_11 := Lib.hid (BL_5.out.trans (bw2.mono (by omega)))
  clear BL_5
  clear ow2 bw2
  go_wp2_with fail
  refine (HSP.out _ _ _ (L_9.out.rd.mono (Nat.zero_le _) (by omega)) (O_10.out.rd.mono (Nat.zero_le _) (by omega))).mono ?_
  rintro e w3 ⟨r_12, rfl, ⟨_, _, _, rfl⟩, ow3, bw3⟩
  have sw3 : w2.heap.size ≤ w3.heap.size := bw3.size
  have L_13 := Lib.hid (L_7.out.same (SameIn.below bw3 (by omega)))
  clear L_7
  have L_14 := Lib.hid (L_8.out.same (SameIn.below bw3 (by omega)))
  clear L_8
  have L_15 := Lib.hid (L_9.out.same (SameIn.below bw3 (by omega)))
  clear L_9
  have L_16 := Lib.hid (O_10.out.same (SameIn.below bw3 (by omega)))
  clear O_10
  have O_17 := Lib.hid ow3
  have BL_18 := Lib.hid (BL_11.out.trans (bw3.mono (by omega)))
  clear BL_11
  clear ow3 bw3
  go_wp2_with fail
  refine (toL_any _ 0 w.heap.size n0 z0 _ L_13.out hbig0 (by omega)).mono ?_
  rintro e w4 ⟨r_19, rfl, ⟨_, _, _, rfl⟩, ow4, bw4⟩
  have sw4 : w3.heap.size ≤ w4.heap.size := bw4.size
  have L_20 := Lib.hid (L_13.out.same (SameIn.below bw4 (by omega)))
  clear L_13
  have L_21 := Lib.hid (L_14.out.same (SameIn.below bw4 (by omega)))
  clear L_14
  have L_22 := Lib.hid (O_17.out.same (SameIn.below bw4 (by omega)))
  clear O_17
  have O_23 := Lib.hid ow4
  have BL_24 := Lib.hid (BL_18.out.trans (bw4.mono (by omega)))
  clear BL_18
  clear ow4 bw4
  go_wp2_with fail
  refine (toL_any _ 0 w.heap.size n1 z1 _ L_21.out hbig1 (by omega)).mono ?_
  rintro e w5 ⟨r_25, rfl, ⟨_, _, _, rfl⟩, ow5, bw5⟩
  have sw5 : w4.heap.size ≤ w5.heap.size := bw5.size
  have L_26 := Lib.hid (L_20.out.same (SameIn.below bw5 (by omega)))
  clear L_20
  have L_27 := Lib.hid (L_21.out.same (SameIn.below bw5 (by omega)))
  clear L_21
  have L_28 := Lib.hid (L_22.out.same (SameIn.below bw5 (by omega)))
  clear L_22
  have L_29 := Lib.hid (O_23.out.same (SameIn.below bw5 (by omega)))
  clear O_23
  have O_30 := Lib.hid ow5
  have BL_31 := Lib.hid (BL_24.out.trans (bw5.mono (by omega)))
  clear BL_24
  clear ow5 bw5
  go_wp2_with fail
  refine (HIM.out _ _ _ (L_29.out.rd.mono (Nat.zero_le _) (by omega)) (O_30.out.rd.mono (Nat.zero_le _) (by omega))).mono ?_
  rintro e w6 ⟨r_32, rfl, ⟨_, _, _, rfl⟩, ow6, bw6⟩
  have sw6 : w5.heap.size ≤ w6.heap.size := bw6.size
  have L_33 := Lib.hid (L_26.out.same (SameIn.below bw6 (by omega)))
  clear L_26
  have L_34 := Lib.hid (L_27.out.same (SameIn.below bw6 (by omega)))
  clear L_27
  have L_35 := Lib.hid (L_28.out.same (SameIn.below bw6 (by omega)))
  clear L_28
  have L_36 := Lib.hid (L_29.out.same (SameIn.below bw6 (by omega)))
  clear L_29
  have L_37 := Lib.hid (O_30.out.same (SameIn.below bw6 (by omega)))
  clear O_30
  have O_38 := Lib.hid ow6
  have BL_39 := Lib.hid (BL_31.out.trans (bw6.mono (by omega)))
  clear BL_31
  clear ow6 bw6
  go_wp2_with fail
  refine (eqIntS_any _ _ _ _ _ _ n z z _ O_38.out.rd L_35.out (fun _ _ => rfl)).mono ?_
  intro e w7 hq
  obtain ⟨rfl, bw7⟩ := hq.below
  have sw7 : w6.heap.size ≤ w7.heap.size := bw7.size
  have L_40 := Lib.hid (L_33.out.same (SameIn.below bw7 (by omega)))
  clear L_33
  have L_41 := Lib.hid (L_34.out.same (SameIn.below bw7 (by omega)))
  clear L_34
  have L_42 := Lib.hid (L_35.out.same (SameIn.below bw7 (by omega)))
  clear L_35
  have L_43 := Lib.hid (L_36.out.same (SameIn.below bw7 (by omega)))
  clear L_36
  have L_44 := Lib.hid (L_37.out.same (SameIn.below bw7 (by omega)))
  clear L_37
  have L_45 := Lib.hid (O_38.out.same (SameIn.below bw7 (by omega)))
  clear O_38
  have BL_46 := Lib.hid (BL_39.out.trans (bw7.mono (by omega)))
  clear BL_39
  clear hq bw7
  go_wp2_with fail
  refine (toL_any _ 0 w.heap.size n0 z0 _ L_40.out hbig0 (by omega)).mono ?_
  rintro e w8 ⟨r_47, rfl, ⟨_, _, _, rfl⟩, ow8, bw8⟩
  have sw8 : w7.heap.size ≤ w8.heap.size := bw8.size
  have L_48 := Lib.hid (L_40.out.same (SameIn.below bw8 (by omega)))
  clear L_40
  have L_49 := Lib.hid (L_41.out.same (SameIn.below bw8 (by omega)))
  clear L_41
  have L_50 := Lib.hid (L_42.out.same (SameIn.below bw8 (by omega)))
  clear L_42
  have L_51 := Lib.hid (L_43.out.same (SameIn.below bw8 (by omega)))
  clear L_43
  have L_52 := Lib.hid (L_44.out.same (SameIn.below bw8 (by omega)))
  clear L_44
  have L_53 := Lib.hid (L_45.out.same (SameIn.below bw8 (by omega)))
  clear L_45
  have O_54 := Lib.hid ow8
  have BL_55 := Lib.hid (BL_46.out.trans (bw8.mono (by omega)))
  clear BL_46
  clear ow8 bw8
  go_wp2_with fail
  refine (eqIntS_any _ _ _ _ _ _ n0 z0 z0 _ L_51.out.rd O_54.out.rd (fun _ _ => rfl)).mono ?_
  intro e w9 hq
  obtain ⟨rfl, bw9⟩ := hq.below
  have sw9 : w8.heap.size ≤ w9.heap.size := bw9.size
  have L_56 := Lib.hid (L_48.out.same (SameIn.below bw9 (by omega)))
  clear L_48
  have L_57 := Lib.hid (L_49.out.same (SameIn.below bw9 (by omega)))
  clear L_49
  have L_58 := Lib.hid (L_50.out.same (SameIn.below bw9 (by omega)))
  clear L_50
  have L_59 := Lib.hid (L_51.out.same (SameIn.below bw9 (by omega)))
  clear L_51
  have L_60 := Lib.hid (L_52.out.same (SameIn.below bw9 (by omega)))
  clear L_52
  have L_61 := Lib.hid (L_53.out.same (SameIn.below bw9 (by omega)))
  clear L_53
  have L_62 := Lib.hid (O_54.out.same (SameIn.below bw9 (by omega)))
  clear O_54
  have BL_63 := Lib.hid (BL_55.out.trans (bw9.mono (by omega)))
  clear BL_55
  clear hq bw9
  go_wp2_with fail
  refine (toL_any _ 0 w.heap.size n1 z1 _ L_57.out hbig1 (by omega)).mono ?_
  rintro e w10 ⟨r_64, rfl, ⟨_, _, _, rfl⟩, ow10, bw10⟩
  have sw10 : w9.heap.size ≤ w10.heap.size := bw10.size
  have L_65 := Lib.hid (L_56.out.same (SameIn.below bw10 (by omega)))
  clear L_56
  have L_66 := Lib.hid (L_57.out.same (SameIn.below bw10 (by omega)))
  clear L_57
  have L_67 := Lib.hid (L_58.out.same (SameIn.below bw10 (by omega)))
  clear L_58
  have L_68 := Lib.hid (L_59.out.same (SameIn.below bw10 (by omega)))
  clear L_59
  have L_69 := Lib.hid (L_60.out.same (SameIn.below bw10 (by omega)))
  clear L_60
  have L_70 := Lib.hid (L_61.out.same (SameIn.below bw10 (by omega)))
  clear L_61
  have O_71 := Lib.hid ow10
  have BL_72 := Lib.hid (BL_63.out.trans (bw10.mono (by omega)))
  clear BL_63
  clear ow10 bw10
  go_wp2_with fail
  refine (eqIntS_any _ _ _ _ _ _ n1 z1 z1 _ L_69.out.rd O_71.out.rd (fun _ _ => rfl)).mono ?_
  intro e w11 hq
  obtain ⟨rfl, bw11⟩ := hq.below
  have sw11 : w10.heap.size ≤ w11.heap.size := bw11.size
  have L_73 := Lib.hid (L_65.out.same (SameIn.below bw11 (by omega)))
  clear L_65
  have L_74 := Lib.hid (L_66.out.same (SameIn.below bw11 (by omega)))
  clear L_66
  have L_75 := Lib.hid (L_67.out.same (SameIn.below bw11 (by omega)))
  clear L_67
  have L_76 := Lib.hid (L_68.out.same (SameIn.below bw11 (by omega)))
  clear L_68
  have L_77 := Lib.hid (L_69.out.same (SameIn.below bw11 (by omega)))
  clear L_69
  have L_78 := Lib.hid (L_70.out.same (SameIn.below bw11 (by omega)))
  clear L_70
  have L_79 := Lib.hid (O_71.out.same (SameIn.below bw11 (by omega)))
  clear O_71
  have BL_80 := Lib.hid (BL_72.out.trans (bw11.mono (by omega)))
  clear BL_72
  clear hq bw11
  go_wp2_with fail
  refine (markL_any _ _ _ n0 z0 (1) _ L_76.out (by omega) (by omega) hbig0).mono ?_
  rintro e w12 ⟨rfl, ow12, cw12, zw12⟩
  have sw12 : w11.heap.size ≤ w12.heap.size := cw12.size
  clear zw12
  have L_81 := Lib.hid (L_73.out.same (cw12.sameIn (by omega) (by omega)))
  clear L_73
  have L_82 := Lib.hid (L_74.out.same (cw12.sameIn (by omega) (by omega)))
  clear L_74
  have L_83 := Lib.hid (L_75.out.same (cw12.sameIn (by omega) (by omega)))
  clear L_75
  have L_84 := Lib.hid (L_77.out.same (cw12.sameIn (by omega) (by omega)))
  clear L_77
  have L_85 := Lib.hid (L_78.out.same (cw12.sameIn (by omega) (by omega)))
  clear L_78
  have BL_86 := Lib.hid (BL_80.out.trans (cw12.below (by omega) (by omega)))
  clear BL_80
  clear ow12 cw12 L_76
  go_wp2_with fail
  refine (markL_any _ _ _ n1 z1 (1 + (n0 : Int)) _ L_84.out (by omega) (by omega) hbig1).mono ?_
  rintro e w13 ⟨rfl, ow13, cw13, zw13⟩
  have sw13 : w12.heap.size ≤ w13.heap.size := cw13.size
  clear zw13
  have L_87 := Lib.hid (L_81.out.same (cw13.sameIn (by omega) (by omega)))
  clear L_81
  have L_88 := Lib.hid (L_82.out.same (cw13.sameIn (by omega) (by omega)))
  clear L_82
  have L_89 := Lib.hid (L_83.out.same (cw13.sameIn (by omega) (by omega)))
  clear L_83
  have L_90 := Lib.hid (L_85.out.same (cw13.sameIn (by omega) (by omega)))
  clear L_85
  have BL_91 := Lib.hid (BL_86.out.trans (cw13.below (by omega) (by omega)))
  clear BL_86
  clear ow13 cw13 L_84
  have hkk : ¬ (1 + (n0 : Int) + (n1 : Int) < (0 : Int)) := by omega
  go_wp2_with fail
  refine (eqIntS_any _ _ _ _ _ _ n z z _ L_90.out.rd L_89.out (fun _ _ => rfl)).mono ?_
  intro e w14 hq
  obtain ⟨rfl, bw14⟩ := hq.below
  have sw14 : w13.heap.size ≤ w14.heap.size := bw14.size
  have L_92 := Lib.hid (L_87.out.same (SameIn.below bw14 (by omega)))
  clear L_87
  have L_93 := Lib.hid (L_88.out.same (SameIn.below bw14 (by omega)))
  clear L_88
  have L_94 := Lib.hid (L_89.out.same (SameIn.below bw14 (by omega)))
  clear L_89
  have L_95 := Lib.hid (L_90.out.same (SameIn.below bw14 (by omega)))
  clear L_90
  have BL_96 := Lib.hid (BL_91.out.trans (bw14.mono (by omega)))
  clear BL_91
  clear hq bw14
  go_wp2_with fail
  refine (markL_any _ _ _ n z (1) _ L_95.out (by omega) (by omega) hn).mono ?_
  rintro e w15 ⟨rfl, ow15, cw15, zw15⟩
  have sw15 : w14.heap.size ≤ w15.heap.size := cw15.size
  clear zw15
  have L_97 := Lib.hid (L_92.out.same (cw15.sameIn (by omega) (by omega)))
  clear L_92
  have L_98 := Lib.hid (L_93.out.same (cw15.sameIn (by omega) (by omega)))
  clear L_93
  have L_99 := Lib.hid (L_94.out.same (cw15.sameIn (by omega) (by omega)))
  clear L_94
  have BL_100 := Lib.hid (BL_96.out.trans (cw15.below (by omega) (by omega)))
  clear BL_96
  have M_101 := Lib.hid ow15
  clear ow15 cw15 L_95
  go_wp2_with fail
  refine (heldL_any _ _ _ n _ M_101.out hn).mono ?_
  rintro e w' ⟨rfl, rfl⟩
  go_wp2_with fail
  refine (toL_any _ 0 w.heap.size n0 z0 _ L_97.out hbig0 (by omega)).mono ?_
  rintro e w16 ⟨r_102, rfl, ⟨_, _, _, rfl⟩, ow16, bw16⟩
  have sw16 : w15.heap.size ≤ w16.heap.size := bw16.size
  have L_103 := Lib.hid (L_97.out.same (SameIn.below bw16 (by omega)))
  clear L_97
  have L_104 := Lib.hid (L_98.out.same (SameIn.below bw16 (by omega)))
  clear L_98
  have L_105 := Lib.hid (L_99.out.same (SameIn.below bw16 (by omega)))
  clear L_99
  have L_106 := Lib.hid (M_101.out.same (SameIn.below bw16 (by omega)))
  clear M_101
  have O_107 := Lib.hid ow16
  have BL_108 := Lib.hid (BL_100.out.trans (bw16.mono (by omega)))
  clear BL_100
  clear ow16 bw16
  go_wp2_with fail
  refine (toL_any _ 0 w.heap.size n1 z1 _ L_104.out hbig1 (by omega)).mono ?_
  rintro e w17 ⟨r_109, rfl, ⟨_, _, _, rfl⟩, ow17, bw17⟩
  have sw17 : w16.heap.size ≤ w17.heap.size := bw17.size
  have L_110 := Lib.hid (L_103.out.same (SameIn.below bw17 (by omega)))
  clear L_103
  have L_111 := Lib.hid (L_104.out.same (SameIn.below bw17 (by omega)))
  clear L_104
  have L_112 := Lib.hid (L_105.out.same (SameIn.below bw17 (by omega)))
  clear L_105
  have L_113 := Lib.hid (L_106.out.same (SameIn.below bw17 (by omega)))
  clear L_106
  have L_114 := Lib.hid (O_107.out.same (SameIn.below bw17 (by omega)))
  clear O_107
  have O_115 := Lib.hid ow17
  have BL_116 := Lib.hid (BL_108.out.trans (bw17.mono (by omega)))
  clear BL_108
  clear ow17 bw17
  go_wp2_with fail
  refine (HIM.out _ _ _ (L_114.out.rd.mono (Nat.zero_le _) (by omega)) (O_115.out.rd.mono (Nat.zero_le _) (by omega))).mono ?_
  rintro e w18 ⟨r_117, rfl, ⟨_, _, _, rfl⟩, ow18, bw18⟩
  have sw18 : w17.heap.size ≤ w18.heap.size := bw18.size
  have L_118 := Lib.hid (L_110.out.same (SameIn.below bw18 (by omega)))
  clear L_110
  have L_119 := Lib.hid (L_111.out.same (SameIn.below bw18 (by omega)))
  clear L_111
  have L_120 := Lib.hid (L_112.out.same (SameIn.below bw18 (by omega)))
  clear L_112
  have L_121 := Lib.hid (L_113.out.same (SameIn.below bw18 (by omega)))
  clear L_113
  have L_122 := Lib.hid (L_114.out.same (SameIn.below bw18 (by omega)))
  clear L_114
  have L_123 := Lib.hid (O_115.out.same (SameIn.below bw18 (by omega)))
  clear O_115
  have O_124 := Lib.hid ow18
  have BL_125 := Lib.hid (BL_116.out.trans (bw18.mono (by omega)))
  clear BL_116
  clear ow18 bw18
  go_wp2_with fail
  refine (eqIntS_any _ _ _ _ _ _ n z z _ O_124.out.rd L_120.out (fun _ _ => rfl)).mono ?_
  intro e w19 hq
  obtain ⟨rfl, bw19⟩ := hq.below
  have sw19 : w18.heap.size ≤ w19.heap.size := bw19.size
  have L_126 := Lib.hid (L_118.out.same (SameIn.below bw19 (by omega)))
  clear L_118
  have L_127 := Lib.hid (L_119.out.same (SameIn.below bw19 (by omega)))
  clear L_119
  have L_128 := Lib.hid (L_120.out.same (SameIn.below bw19 (by omega)))
  clear L_120
  have L_129 := Lib.hid (L_121.out.same (SameIn.below bw19 (by omega)))
  clear L_121
  have L_130 := Lib.hid (L_122.out.same (SameIn.below bw19 (by omega)))
  clear L_122
  have L_131 := Lib.hid (L_123.out.same (SameIn.below bw19 (by omega)))
  clear L_123
  have L_132 := Lib.hid (O_124.out.same (SameIn.below bw19 (by omega)))
  clear O_124
  have BL_133 := Lib.hid (BL_125.out.trans (bw19.mono (by omega)))
  clear BL_125
  clear hq bw19
  go_wp2_with fail
  refine (heldL_any _ _ _ n _ L_129.out hn).mono ?_
  rintro e w' ⟨rfl, rfl⟩
  go_wp2
  go_ret
  exact ⟨rfl, BL_133.out⟩

end Go.Proofs.Ytjepmnngphlgoaa
