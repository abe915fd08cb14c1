/- The exact law of ThinJoin: its walk, out of the two functions' contracts. -/
import Derived.Test.YtjepmnngphlgoaaPrM
import Derived.Test.YtjepmnngphlgoaaPrM
namespace Go.Proofs.Ytjepmnngphlgoaa
open Go.RowKit
set_option linter.unusedVariables false

set_option maxRecDepth 20000 in
set_option maxHeartbeats 8000000 in
theorem law_FnExactThinJoin (v0 : Value) (n0 : Nat) (z0 : Nat → Int) (v1 : Value) (n1 : Nat) (z1 : Nat → Int) (v2 : Value) (n2 : Nat) (z2 : Nat → Int) (v3 : Value) (n3 : Nat) (z3 : Nat → Int) (w : World) (b : Bool) (n : Nat) (z : Nat → Int) (hv0 : RdI 0 w.heap.size w v0 n0 z0) (hv1 : RdI 0 w.heap.size w v1 n1 z1) (hv2 : RdI 0 w.heap.size w v2 n2 z2) (hv3 : RdI 0 w.heap.size w v3 n3 z3)
    (hspec : n0 ≤ 1048576 → n1 ≤ 1048576 → n2 ≤ 1048576 → n3 ≤ 1048576 → ∀ (u0 : Value) (u1 : Value) (u2 : Value) (u3 : Value) (W : World), RdI 0 W.heap.size W u0 n0 z0 → RdI 0 W.heap.size W u1 n1 z1 → RdI 0 W.heap.size W u2 n2 z2 → RdI 0 W.heap.size W u3 n3 z3 → Calls Try.prog 38 #[u0, u1, u2, u3] W (LsPost b n z W))
    (himpl : n0 ≤ 1048576 → n1 ≤ 1048576 → n2 ≤ 1048576 → n3 ≤ 1048576 → ∀ (u0 : Value) (u1 : Value) (u2 : Value) (u3 : Value) (W : World), RdI 0 W.heap.size W u0 n0 z0 → RdI 0 W.heap.size W u1 n1 z1 → RdI 0 W.heap.size W u2 n2 z2 → RdI 0 W.heap.size W u3 n3 z3 → Calls Try.prog 39 #[u0, u1, u2, u3] W (LgPost b n z W))
    (hn : n0 ≤ 1048576 → n1 ≤ 1048576 → n2 ≤ 1048576 → n3 ≤ 1048576 → n ≤ 1048576)
    : Calls Try.prog 13 #[v0, v1, v2, v3] w (LawPost w) := by
  obtain ⟨va0, vc0, rfl⟩ := hv0.shape
  obtain ⟨va1, vc1, rfl⟩ := hv1.shape
  obtain ⟨va2, vc2, rfl⟩ := hv2.shape
  obtain ⟨va3, vc3, rfl⟩ := hv3.shape
  by_cases hbig0 : n0 ≤ 1048576
  case neg =>
    have hbig0' : (1048576 : Int) < n0 := by omega
    clear hspec himpl hv0 hv1 hv2 hv3 hn
    go_enter Try.func13, Try.ntmps13
    go_wp2
    go_ret
    exact ⟨rfl, Below.refl _ _⟩
  have hbig0' : ¬ (1048576 : Int) < n0 := by omega
  by_cases hbig1 : n1 ≤ 1048576
  case neg =>
    have hbig1' : (1048576 : Int) < n1 := by omega
    clear hspec himpl hv0 hv1 hv2 hv3 hn
    go_enter Try.func13, Try.ntmps13
    go_wp2
    go_ret
    exact ⟨rfl, Below.refl _ _⟩
  have hbig1' : ¬ (1048576 : Int) < n1 := by omega
  by_cases hbig2 : n2 ≤ 1048576
  case neg =>
    have hbig2' : (1048576 : Int) < n2 := by omega
    clear hspec himpl hv0 hv1 hv2 hv3 hn
    go_enter Try.func13, Try.ntmps13
    go_wp2
    go_ret
    exact ⟨rfl, Below.refl _ _⟩
  have hbig2' : ¬ (1048576 : Int) < n2 := by omega
  by_cases hbig3 : n3 ≤ 1048576
  case neg =>
    have hbig3' : (1048576 : Int) < n3 := by omega
    clear hspec himpl hv0 hv1 hv2 hv3 hn
    go_enter Try.func13, Try.ntmps13
    go_wp2
    go_ret
    exact ⟨rfl, Below.refl _ _⟩
  have hbig3' : ¬ (1048576 : Int) < n3 := by omega
  have HSP := Lib.hid (hspec hbig0 hbig1 hbig2 hbig3)
  have HIM := Lib.hid (himpl hbig0 hbig1 hbig2 hbig3)
  have hn := hn hbig0 hbig1 hbig2 hbig3
  have hx : (b != b) = false := by simp
  have A0 := Lib.hid hv0
  have A1 := Lib.hid hv1
  have A2 := Lib.hid hv2
  have A3 := Lib.hid hv3
  have BL := Lib.hid (Below.refl w.heap.size w)
  clear hspec himpl hv0 hv1 hv2 hv3
  go_enter Try.func13, Try.ntmps13
  go_wp2_with fail
  refine (toL_any _ 0 w.heap.size n0 z0 _ A0.out hbig0 (by omega)).mono ?_
  rintro e w1 ⟨r_1, rfl, ⟨_, _, _, rfl⟩, ow1, bw1⟩
  have sw1 : w.heap.size ≤ w1.heap.size := bw1.size
  have L_2 := Lib.hid (A0.out.same (SameIn.below bw1 (by omega)))
  clear A0
  have L_3 := Lib.hid (A1.out.same (SameIn.below bw1 (by omega)))
  clear A1
  have L_4 := Lib.hid (A2.out.same (SameIn.below bw1 (by omega)))
  clear A2
  have L_5 := Lib.hid (A3.out.same (SameIn.below bw1 (by omega)))
  clear A3
  have O_6 := Lib.hid ow1
  have BL_7 := Lib.hid (BL.out.trans (bw1.mono (by omega)))
  clear BL
  clear ow1 bw1
  go_wp2_with fail
  refine (toL_any _ 0 w.heap.size n1 z1 _ L_3.out hbig1 (by omega)).mono ?_
  rintro e w2 ⟨r_8, rfl, ⟨_, _, _, rfl⟩, ow2, bw2⟩
  have sw2 : w1.heap.size ≤ w2.heap.size := bw2.size
  have L_9 := Lib.hid (L_2.out.same (SameIn.below bw2 (by omega)))
  clear L_2
  have L_10 := Lib.hid (L_3.out.same (SameIn.below bw2 (by omega)))
  clear L_3
  have L_11 := Lib.hid (L_4.out.same (SameIn.below bw2 (by omega)))
  clear L_4
  have L_12 := Lib.hid (L_5.out.same (SameIn.below bw2 (by omega)))
  clear L_5
  have L_13 := Lib.hid (O_6.out.same (SameIn.below bw2 (by omega)))
  clear O_6
  have O_14 := Lib.hid ow2
  have BL_15 := Lib.hid (BL_7.out.trans (bw2.mono (by omega)))
  clear BL_7
  clear ow2 bw2
  go_wp2_with fail
  refine (toL_any _ 0 w.heap.size n2 z2 _ L_11.out hbig2 (by omega)).mono ?_
  rintro e w3 ⟨r_16, rfl, ⟨_, _, _, rfl⟩, ow3, bw3⟩
  have sw3 : w2.heap.size ≤ w3.heap.size := bw3.size
  have L_17 := Lib.hid (L_9.out.same (SameIn.below bw3 (by omega)))
  clear L_9
  have L_18 := Lib.hid (L_10.out.same (SameIn.below bw3 (by omega)))
  clear L_10
  have L_19 := Lib.hid (L_11.out.same (SameIn.below bw3 (by omega)))
  clear L_11
  have L_20 := Lib.hid (L_12.out.same (SameIn.below bw3 (by omega)))
  clear L_12
  have L_21 := Lib.hid (L_13.out.same (SameIn.below bw3 (by omega)))
  clear L_13
  have L_22 := Lib.hid (O_14.out.same (SameIn.below bw3 (by omega)))
  clear O_14
  have O_23 := Lib.hid ow3
  have BL_24 := Lib.hid (BL_15.out.trans (bw3.mono (by omega)))
  clear BL_15
  clear ow3 bw3
  go_wp2_with fail
  refine (toL_any _ 0 w.heap.size n3 z3 _ L_20.out hbig3 (by omega)).mono ?_
  rintro e w4 ⟨r_25, rfl, ⟨_, _, _, rfl⟩, ow4, bw4⟩
  have sw4 : w3.heap.size ≤ w4.heap.size := bw4.size
  have L_26 := Lib.hid (L_17.out.same (SameIn.below bw4 (by omega)))
  clear L_17
  have L_27 := Lib.hid (L_18.out.same (SameIn.below bw4 (by omega)))
  clear L_18
  have L_28 := Lib.hid (L_19.out.same (SameIn.below bw4 (by omega)))
  clear L_19
  have L_29 := Lib.hid (L_20.out.same (SameIn.below bw4 (by omega)))
  clear L_20
  have L_30 := Lib.hid (L_21.out.same (SameIn.below bw4 (by omega)))
  clear L_21
  have L_31 := Lib.hid (L_22.out.same (SameIn.below bw4 (by omega)))
  clear L_22
  have L_32 := Lib.hid (O_23.out.same (SameIn.below bw4 (by omega)))
  clear O_23
  have O_33 := Lib.hid ow4
  have BL_34 := Lib.hid (BL_24.out.trans (bw4.mono (by omega)))
  clear BL_24
  clear ow4 bw4
  go_wp2_with fail
  refine (HSP.out _ _ _ _ _ (L_30.out.rd.mono (Nat.zero_le _) (by omega)) (L_31.out.rd.mono (Nat.zero_le _) (by omega)) (L_32.out.rd.mono (Nat.zero_le _) (by omega)) (O_33.out.rd.mono (Nat.zero_le _) (by omega))).mono ?_
  rintro e w5 ⟨r_35, rfl, ⟨_, _, _, rfl⟩, ow5, bw5⟩
  have sw5 : w4.heap.size ≤ w5.heap.size := bw5.size
  have L_36 := Lib.hid (L_26.out.same (SameIn.below bw5 (by omega)))
  clear L_26
  have L_37 := Lib.hid (L_27.out.same (SameIn.below bw5 (by omega)))
  clear L_27
  have L_38 := Lib.hid (L_28.out.same (SameIn.below bw5 (by omega)))
  clear L_28
  have L_39 := Lib.hid (L_29.out.same (SameIn.below bw5 (by omega)))
  clear L_29
  have L_40 := Lib.hid (L_30.out.same (SameIn.below bw5 (by omega)))
  clear L_30
  have L_41 := Lib.hid (L_31.out.same (SameIn.below bw5 (by omega)))
  clear L_31
  have L_42 := Lib.hid (L_32.out.same (SameIn.below bw5 (by omega)))
  clear L_32
  have L_43 := Lib.hid (O_33.out.same (SameIn.below bw5 (by omega)))
  clear O_33
  have O_44 := Lib.hid ow5
  have BL_45 := Lib.hid (BL_34.out.trans (bw5.mono (by omega)))
  clear BL_34
  clear ow5 bw5
  go_wp2_with fail
  refine (toL_any _ 0 w.heap.size n0 z0 _ L_36.out hbig0 (by omega)).mono ?_
  rintro e w6 ⟨r_46, rfl, ⟨_, _, _, rfl⟩, ow6, bw6⟩
  have sw6 : w5.heap.size ≤ w6.heap.size := bw6.size
  have L_47 := Lib.hid (L_36.out.same (SameIn.below bw6 (by omega)))
  clear L_36
  have L_48 := Lib.hid (L_37.out.same (SameIn.below bw6 (by omega)))
  clear L_37
  have L_49 := Lib.hid (L_38.out.same (SameIn.below bw6 (by omega)))
  clear L_38
  have L_50 := Lib.hid (L_39.out.same (SameIn.below bw6 (by omega)))
  clear L_39
  have L_51 := Lib.hid (O_44.out.same (SameIn.below bw6 (by omega)))
  clear O_44
  have O_52 := Lib.hid ow6
  have BL_53 := Lib.hid (BL_45.out.trans (bw6.mono (by omega)))
  clear BL_45
  clear ow6 bw6
  go_wp2_with fail
  refine (toL_any _ 0 w.heap.size n1 z1 _ L_48.out hbig1 (by omega)).mono ?_
  rintro e w7 ⟨r_54, rfl, ⟨_, _, _, rfl⟩, ow7, bw7⟩
  have sw7 : w6.heap.size ≤ w7.heap.size := bw7.size
  have L_55 := Lib.hid (L_47.out.same (SameIn.below bw7 (by omega)))
  clear L_47
  have L_56 := Lib.hid (L_48.out.same (SameIn.below bw7 (by omega)))
  clear L_48
  have L_57 := Lib.hid (L_49.out.same (SameIn.below bw7 (by omega)))
  clear L_49
  have L_58 := Lib.hid (L_50.out.same (SameIn.below bw7 (by omega)))
  clear L_50
  have L_59 := Lib.hid (L_51.out.same (SameIn.below bw7 (by omega)))
  clear L_51
  have L_60 := Lib.hid (O_52.out.same (SameIn.below bw7 (by omega)))
  clear O_52
  have O_61 := Lib.hid ow7
  have BL_62 := Lib.hid (BL_53.out.trans (bw7.mono (by omega)))
  clear BL_53
  clear ow7 bw7
  go_wp2_with fail
  refine (toL_any _ 0 w.heap.size n2 z2 _ L_57.out hbig2 (by omega)).mono ?_
  rintro e w8 ⟨r_63, rfl, ⟨_, _, _, rfl⟩, ow8, bw8⟩
  have sw8 : w7.heap.size ≤ w8.heap.size := bw8.size
  have L_64 := Lib.hid (L_55.out.same (SameIn.below bw8 (by omega)))
  clear L_55
  have L_65 := Lib.hid (L_56.out.same (SameIn.below bw8 (by omega)))
  clear L_56
  have L_66 := Lib.hid (L_57.out.same (SameIn.below bw8 (by omega)))
  clear L_57
  have L_67 := Lib.hid (L_58.out.same (SameIn.below bw8 (by omega)))
  clear L_58
  have L_68 := Lib.hid (L_59.out.same (SameIn.below bw8 (by omega)))
  clear L_59
  have L_69 := Lib.hid (L_60.out.same (SameIn.below bw8 (by omega)))
  clear L_60
  have L_70 := Lib.hid (O_61.out.same (SameIn.below bw8 (by omega)))
  clear O_61
  have O_71 := Lib.hid ow8
  have BL_72 := Lib.hid (BL_62.out.trans (bw8.mono (by omega)))
  clear BL_62
  clear ow8 bw8
  go_wp2_with fail
  refine (toL_any _ 0 w.heap.size n3 z3 _ L_67.out hbig3 (by omega)).mono ?_
  rintro e w9 ⟨r_73, rfl, ⟨_, _, _, rfl⟩, ow9, bw9⟩
  have sw9 : w8.heap.size ≤ w9.heap.size := bw9.size
  have L_74 := Lib.hid (L_64.out.same (SameIn.below bw9 (by omega)))
  clear L_64
  have L_75 := Lib.hid (L_65.out.same (SameIn.below bw9 (by omega)))
  clear L_65
  have L_76 := Lib.hid (L_66.out.same (SameIn.below bw9 (by omega)))
  clear L_66
  have L_77 := Lib.hid (L_67.out.same (SameIn.below bw9 (by omega)))
  clear L_67
  have L_78 := Lib.hid (L_68.out.same (SameIn.below bw9 (by omega)))
  clear L_68
  have L_79 := Lib.hid (L_69.out.same (SameIn.below bw9 (by omega)))
  clear L_69
  have L_80 := Lib.hid (L_70.out.same (SameIn.below bw9 (by omega)))
  clear L_70
  have L_81 := Lib.hid (O_71.out.same (SameIn.below bw9 (by omega)))
  clear O_71
  have O_82 := Lib.hid ow9
  have BL_83 := Lib.hid (BL_72.out.trans (bw9.mono (by omega)))
  clear BL_72
  clear ow9 bw9
  go_wp2_with fail
  refine (HIM.out _ _ _ _ _ (L_79.out.rd.mono (Nat.zero_le _) (by omega)) (L_80.out.rd.mono (Nat.zero_le _) (by omega)) (L_81.out.rd.mono (Nat.zero_le _) (by omega)) (O_82.out.rd.mono (Nat.zero_le _) (by omega))).mono ?_
  rintro e w10 ⟨r_84, rfl, ⟨_, _, _, rfl⟩, ow10, bw10⟩
  have sw10 : w9.heap.size ≤ w10.heap.size := bw10.size
  have L_85 := Lib.hid (L_74.out.same (SameIn.below bw10 (by omega)))
  clear L_74
  have L_86 := Lib.hid (L_75.out.same (SameIn.below bw10 (by omega)))
  clear L_75
  have L_87 := Lib.hid (L_76.out.same (SameIn.below bw10 (by omega)))
  clear L_76
  have L_88 := Lib.hid (L_77.out.same (SameIn.below bw10 (by omega)))
  clear L_77
  have L_89 := Lib.hid (L_78.out.same (SameIn.below bw10 (by omega)))
  clear L_78
  have L_90 := Lib.hid (L_79.out.same (SameIn.below bw10 (by omega)))
  clear L_79
  have L_91 := Lib.hid (L_80.out.same (SameIn.below bw10 (by omega)))
  clear L_80
  have L_92 := Lib.hid (L_81.out.same (SameIn.below bw10 (by omega)))
  clear L_81
  have L_93 := Lib.hid (O_82.out.same (SameIn.below bw10 (by omega)))
  clear O_82
  have O_94 := Lib.hid ow10
  have BL_95 := Lib.hid (BL_83.out.trans (bw10.mono (by omega)))
  clear BL_83
  clear ow10 bw10
  go_wp2_with fail
  refine (eqIntS_any _ _ _ _ _ _ n z z _ O_94.out.rd L_89.out (fun _ _ => rfl)).mono ?_
  intro e w11 hq
  obtain ⟨rfl, bw11⟩ := hq.below
  have sw11 : w10.heap.size ≤ w11.heap.size := bw11.size
  have L_96 := Lib.hid (L_85.out.same (SameIn.below bw11 (by omega)))
  clear L_85
  have L_97 := Lib.hid (L_86.out.same (SameIn.below bw11 (by omega)))
  clear L_86
  have L_98 := Lib.hid (L_87.out.same (SameIn.below bw11 (by omega)))
  clear L_87
  have L_99 := Lib.hid (L_88.out.same (SameIn.below bw11 (by omega)))
  clear L_88
  have L_100 := Lib.hid (L_89.out.same (SameIn.below bw11 (by omega)))
  clear L_89
  have L_101 := Lib.hid (L_90.out.same (SameIn.below bw11 (by omega)))
  clear L_90
  have L_102 := Lib.hid (L_91.out.same (SameIn.below bw11 (by omega)))
  clear L_91
  have L_103 := Lib.hid (L_92.out.same (SameIn.below bw11 (by omega)))
  clear L_92
  have L_104 := Lib.hid (L_93.out.same (SameIn.below bw11 (by omega)))
  clear L_93
  have L_105 := Lib.hid (O_94.out.same (SameIn.below bw11 (by omega)))
  clear O_94
  have BL_106 := Lib.hid (BL_95.out.trans (bw11.mono (by omega)))
  clear BL_95
  clear hq bw11
  go_wp2_with fail
  refine (toL_any _ 0 w.heap.size n0 z0 _ L_96.out hbig0 (by omega)).mono ?_
  rintro e w12 ⟨r_107, rfl, ⟨_, _, _, rfl⟩, ow12, bw12⟩
  have sw12 : w11.heap.size ≤ w12.heap.size := bw12.size
  have L_108 := Lib.hid (L_96.out.same (SameIn.below bw12 (by omega)))
  clear L_96
  have L_109 := Lib.hid (L_97.out.same (SameIn.below bw12 (by omega)))
  clear L_97
  have L_110 := Lib.hid (L_98.out.same (SameIn.below bw12 (by omega)))
  clear L_98
  have L_111 := Lib.hid (L_99.out.same (SameIn.below bw12 (by omega)))
  clear L_99
  have L_112 := Lib.hid (L_100.out.same (SameIn.below bw12 (by omega)))
  clear L_100
  have L_113 := Lib.hid (L_101.out.same (SameIn.below bw12 (by omega)))
  clear L_101
  have L_114 := Lib.hid (L_102.out.same (SameIn.below bw12 (by omega)))
  clear L_102
  have L_115 := Lib.hid (L_103.out.same (SameIn.below bw12 (by omega)))
  clear L_103
  have L_116 := Lib.hid (L_104.out.same (SameIn.below bw12 (by omega)))
  clear L_104
  have L_117 := Lib.hid (L_105.out.same (SameIn.below bw12 (by omega)))
  clear L_105
  have O_118 := Lib.hid ow12
  have BL_119 := Lib.hid (BL_106.out.trans (bw12.mono (by omega)))
  clear BL_106
  clear ow12 bw12
  go_wp2_with fail
  refine (eqIntS_any _ _ _ _ _ _ n0 z0 z0 _ L_113.out.rd O_118.out.rd (fun _ _ => rfl)).mono ?_
  intro e w13 hq
  obtain ⟨rfl, bw13⟩ := hq.below
  have sw13 : w12.heap.size ≤ w13.heap.size := bw13.size
  have L_120 := Lib.hid (L_108.out.same (SameIn.below bw13 (by omega)))
  clear L_108
  have L_121 := Lib.hid (L_109.out.same (SameIn.below bw13 (by omega)))
  clear L_109
  have L_122 := Lib.hid (L_110.out.same (SameIn.below bw13 (by omega)))
  clear L_110
  have L_123 := Lib.hid (L_111.out.same (SameIn.below bw13 (by omega)))
  clear L_111
  have L_124 := Lib.hid (L_112.out.same (SameIn.below bw13 (by omega)))
  clear L_112
  have L_125 := Lib.hid (L_113.out.same (SameIn.below bw13 (by omega)))
  clear L_113
  have L_126 := Lib.hid (L_114.out.same (SameIn.below bw13 (by omega)))
  clear L_114
  have L_127 := Lib.hid (L_115.out.same (SameIn.below bw13 (by omega)))
  clear L_115
  have L_128 := Lib.hid (L_116.out.same (SameIn.below bw13 (by omega)))
  clear L_116
  have L_129 := Lib.hid (L_117.out.same (SameIn.below bw13 (by omega)))
  clear L_117
  have L_130 := Lib.hid (O_118.out.same (SameIn.below bw13 (by omega)))
  clear O_118
  have BL_131 := Lib.hid (BL_119.out.trans (bw13.mono (by omega)))
  clear BL_119
  clear hq bw13
  go_wp2_with fail
  refine (toL_any _ 0 w.heap.size n1 z1 _ L_121.out hbig1 (by omega)).mono ?_
  rintro e w14 ⟨r_132, rfl, ⟨_, _, _, rfl⟩, ow14, bw14⟩
  have sw14 : w13.heap.size ≤ w14.heap.size := bw14.size
  have L_133 := Lib.hid (L_120.out.same (SameIn.below bw14 (by omega)))
  clear L_120
  have L_134 := Lib.hid (L_121.out.same (SameIn.below bw14 (by omega)))
  clear L_121
  have L_135 := Lib.hid (L_122.out.same (SameIn.below bw14 (by omega)))
  clear L_122
  have L_136 := Lib.hid (L_123.out.same (SameIn.below bw14 (by omega)))
  clear L_123
  have L_137 := Lib.hid (L_124.out.same (SameIn.below bw14 (by omega)))
  clear L_124
  have L_138 := Lib.hid (L_125.out.same (SameIn.below bw14 (by omega)))
  clear L_125
  have L_139 := Lib.hid (L_126.out.same (SameIn.below bw14 (by omega)))
  clear L_126
  have L_140 := Lib.hid (L_127.out.same (SameIn.below bw14 (by omega)))
  clear L_127
  have L_141 := Lib.hid (L_128.out.same (SameIn.below bw14 (by omega)))
  clear L_128
  have L_142 := Lib.hid (L_129.out.same (SameIn.below bw14 (by omega)))
  clear L_129
  have O_143 := Lib.hid ow14
  have BL_144 := Lib.hid (BL_131.out.trans (bw14.mono (by omega)))
  clear BL_131
  clear ow14 bw14
  go_wp2_with fail
  refine (eqIntS_any _ _ _ _ _ _ n1 z1 z1 _ L_139.out.rd O_143.out.rd (fun _ _ => rfl)).mono ?_
  intro e w15 hq
  obtain ⟨rfl, bw15⟩ := hq.below
  have sw15 : w14.heap.size ≤ w15.heap.size := bw15.size
  have L_145 := Lib.hid (L_133.out.same (SameIn.below bw15 (by omega)))
  clear L_133
  have L_146 := Lib.hid (L_134.out.same (SameIn.below bw15 (by omega)))
  clear L_134
  have L_147 := Lib.hid (L_135.out.same (SameIn.below bw15 (by omega)))
  clear L_135
  have L_148 := Lib.hid (L_136.out.same (SameIn.below bw15 (by omega)))
  clear L_136
  have L_149 := Lib.hid (L_137.out.same (SameIn.below bw15 (by omega)))
  clear L_137
  have L_150 := Lib.hid (L_138.out.same (SameIn.below bw15 (by omega)))
  clear L_138
  have L_151 := Lib.hid (L_139.out.same (SameIn.below bw15 (by omega)))
  clear L_139
  have L_152 := Lib.hid (L_140.out.same (SameIn.below bw15 (by omega)))
  clear L_140
  have L_153 := Lib.hid (L_141.out.same (SameIn.below bw15 (by omega)))
  clear L_141
  have L_154 := Lib.hid (L_142.out.same (SameIn.below bw15 (by omega)))
  clear L_142
  have L_155 := Lib.hid (O_143.out.same (SameIn.below bw15 (by omega)))
  clear O_143
  have BL_156 := Lib.hid (BL_144.out.trans (bw15.mono (by omega)))
  clear BL_144
  clear hq bw15
  go_wp2_with fail
  refine (toL_any _ 0 w.heap.size n2 z2 _ L_147.out hbig2 (by omega)).mono ?_
  rintro e w16 ⟨r_157, rfl, ⟨_, _, _, rfl⟩, ow16, bw16⟩
  have sw16 : w15.heap.size ≤ w16.heap.size := bw16.size
  have L_158 := Lib.hid (L_145.out.same (SameIn.below bw16 (by omega)))
  clear L_145
  have L_159 := Lib.hid (L_146.out.same (SameIn.below bw16 (by omega)))
  clear L_146
  have L_160 := Lib.hid (L_147.out.same (SameIn.below bw16 (by omega)))
  clear L_147
  have L_161 := Lib.hid (L_148.out.same (SameIn.below bw16 (by omega)))
  clear L_148
  have L_162 := Lib.hid (L_149.out.same (SameIn.below bw16 (by omega)))
  clear L_149
  have L_163 := Lib.hid (L_150.out.same (SameIn.below bw16 (by omega)))
  clear L_150
  have L_164 := Lib.hid (L_151.out.same (SameIn.below bw16 (by omega)))
  clear L_151
  have L_165 := Lib.hid (L_152.out.same (SameIn.below bw16 (by omega)))
  clear L_152
  have L_166 := Lib.hid (L_153.out.same (SameIn.below bw16 (by omega)))
  clear L_153
  have L_167 := Lib.hid (L_154.out.same (SameIn.below bw16 (by omega)))
  clear L_154
  have O_168 := Lib.hid ow16
  have BL_169 := Lib.hid (BL_156.out.trans (bw16.mono (by omega)))
  clear BL_156
  clear ow16 bw16
  go_wp2_with fail
  refine (eqIntS_any _ _ _ _ _ _ n2 z2 z2 _ L_165.out.rd O_168.out.rd (fun _ _ => rfl)).mono ?_
  intro e w17 hq
  obtain ⟨rfl, bw17⟩ := hq.below
  have sw17 : w16.heap.size ≤ w17.heap.size := bw17.size
  have L_170 := Lib.hid (L_158.out.same (SameIn.below bw17 (by omega)))
  clear L_158
  have L_171 := Lib.hid (L_159.out.same (SameIn.below bw17 (by omega)))
  clear L_159
  have L_172 := Lib.hid (L_160.out.same (SameIn.below bw17 (by omega)))
  clear L_160
  have L_173 := Lib.hid (L_161.out.same (SameIn.below bw17 (by omega)))
  clear L_161
  have L_174 := Lib.hid (L_162.out.same (SameIn.below bw17 (by omega)))
  clear L_162
  have L_175 := Lib.hid (L_163.out.same (SameIn.below bw17 (by omega)))
  clear L_163
  have L_176 := Lib.hid (L_164.out.same (SameIn.below bw17 (by omega)))
  clear L_164
  have L_177 := Lib.hid (L_165.out.same (SameIn.below bw17 (by omega)))
  clear L_165
  have L_178 := Lib.hid (L_166.out.same (SameIn.below bw17 (by omega)))
  clear L_166
  have L_179 := Lib.hid (L_167.out.same (SameIn.below bw17 (by omega)))
  clear L_167
  have L_180 := Lib.hid (O_168.out.same (SameIn.below bw17 (by omega)))
  clear O_168
  have BL_181 := Lib.hid (BL_169.out.trans (bw17.mono (by omega)))
  clear BL_169
  clear hq bw17
  go_wp2_with fail
  refine (toL_any _ 0 w.heap.size n3 z3 _ L_173.out hbig3 (by omega)).mono ?_
  rintro e w18 ⟨r_182, rfl, ⟨_, _, _, rfl⟩, ow18, bw18⟩
  have sw18 : w17.heap.size ≤ w18.heap.size := bw18.size
  have L_183 := Lib.hid (L_170.out.same (SameIn.below bw18 (by omega)))
  clear L_170
  have L_184 := Lib.hid (L_171.out.same (SameIn.below bw18 (by omega)))
  clear L_171
  have L_185 := Lib.hid (L_172.out.same (SameIn.below bw18 (by omega)))
  clear L_172
  have L_186 := Lib.hid (L_173.out.same (SameIn.below bw18 (by omega)))
  clear L_173
  have L_187 := Lib.hid (L_174.out.same (SameIn.below bw18 (by omega)))
  clear L_174
  have L_188 := Lib.hid (L_175.out.same (SameIn.below bw18 (by omega)))
  clear L_175
  have L_189 := Lib.hid (L_176.out.same (SameIn.below bw18 (by omega)))
  clear L_176
  have L_190 := Lib.hid (L_177.out.same (SameIn.below bw18 (by omega)))
  clear L_177
  have L_191 := Lib.hid (L_178.out.same (SameIn.below bw18 (by omega)))
  clear L_178
  have L_192 := Lib.hid (L_179.out.same (SameIn.below bw18 (by omega)))
  clear L_179
  have O_193 := Lib.hid ow18
  have BL_194 := Lib.hid (BL_181.out.trans (bw18.mono (by omega)))
  clear BL_181
  clear ow18 bw18
  go_wp2_with fail
  refine (eqIntS_any _ _ _ _ _ _ n3 z3 z3 _ L_191.out.rd O_193.out.rd (fun _ _ => rfl)).mono ?_
  intro e w19 hq
  obtain ⟨rfl, bw19⟩ := hq.below
  have sw19 : w18.heap.size ≤ w19.heap.size := bw19.size
  have L_195 := Lib.hid (L_183.out.same (SameIn.below bw19 (by omega)))
  clear L_183
  have L_196 := Lib.hid (L_184.out.same (SameIn.below bw19 (by omega)))
  clear L_184
  have L_197 := Lib.hid (L_185.out.same (SameIn.below bw19 (by omega)))
  clear L_185
  have L_198 := Lib.hid (L_186.out.same (SameIn.below bw19 (by omega)))
  clear L_186
  have L_199 := Lib.hid (L_187.out.same (SameIn.below bw19 (by omega)))
  clear L_187
  have L_200 := Lib.hid (L_188.out.same (SameIn.below bw19 (by omega)))
  clear L_188
  have L_201 := Lib.hid (L_189.out.same (SameIn.below bw19 (by omega)))
  clear L_189
  have L_202 := Lib.hid (L_190.out.same (SameIn.below bw19 (by omega)))
  clear L_190
  have L_203 := Lib.hid (L_191.out.same (SameIn.below bw19 (by omega)))
  clear L_191
  have L_204 := Lib.hid (L_192.out.same (SameIn.below bw19 (by omega)))
  clear L_192
  have L_205 := Lib.hid (O_193.out.same (SameIn.below bw19 (by omega)))
  clear O_193
  have BL_206 := Lib.hid (BL_194.out.trans (bw19.mono (by omega)))
  clear BL_194
  clear hq bw19
  go_wp2_with fail
  refine (markL_any _ _ _ n0 z0 (1) _ L_200.out (by omega) (by omega) hbig0).mono ?_
  rintro e w20 ⟨rfl, ow20, cw20, zw20⟩
  have sw20 : w19.heap.size ≤ w20.heap.size := cw20.size
  clear zw20
  have L_207 := Lib.hid (L_195.out.same (cw20.sameIn (by omega) (by omega)))
  clear L_195
  have L_208 := Lib.hid (L_196.out.same (cw20.sameIn (by omega) (by omega)))
  clear L_196
  have L_209 := Lib.hid (L_197.out.same (cw20.sameIn (by omega) (by omega)))
  clear L_197
  have L_210 := Lib.hid (L_198.out.same (cw20.sameIn (by omega) (by omega)))
  clear L_198
  have L_211 := Lib.hid (L_199.out.same (cw20.sameIn (by omega) (by omega)))
  clear L_199
  have L_212 := Lib.hid (L_201.out.same (cw20.sameIn (by omega) (by omega)))
  clear L_201
  have L_213 := Lib.hid (L_202.out.same (cw20.sameIn (by omega) (by omega)))
  clear L_202
  have L_214 := Lib.hid (L_203.out.same (cw20.sameIn (by omega) (by omega)))
  clear L_203
  have L_215 := Lib.hid (L_204.out.same (cw20.sameIn (by omega) (by omega)))
  clear L_204
  have BL_216 := Lib.hid (BL_206.out.trans (cw20.below (by omega) (by omega)))
  clear BL_206
  clear ow20 cw20 L_200
  go_wp2_with fail
  refine (markL_any _ _ _ n1 z1 (1 + (n0 : Int)) _ L_212.out (by omega) (by omega) hbig1).mono ?_
  rintro e w21 ⟨rfl, ow21, cw21, zw21⟩
  have sw21 : w20.heap.size ≤ w21.heap.size := cw21.size
  clear zw21
  have L_217 := Lib.hid (L_207.out.same (cw21.sameIn (by omega) (by omega)))
  clear L_207
  have L_218 := Lib.hid (L_208.out.same (cw21.sameIn (by omega) (by omega)))
  clear L_208
  have L_219 := Lib.hid (L_209.out.same (cw21.sameIn (by omega) (by omega)))
  clear L_209
  have L_220 := Lib.hid (L_210.out.same (cw21.sameIn (by omega) (by omega)))
  clear L_210
  have L_221 := Lib.hid (L_211.out.same (cw21.sameIn (by omega) (by omega)))
  clear L_211
  have L_222 := Lib.hid (L_213.out.same (cw21.sameIn (by omega) (by omega)))
  clear L_213
  have L_223 := Lib.hid (L_214.out.same (cw21.sameIn (by omega) (by omega)))
  clear L_214
  have L_224 := Lib.hid (L_215.out.same (cw21.sameIn (by omega) (by omega)))
  clear L_215
  have BL_225 := Lib.hid (BL_216.out.trans (cw21.below (by omega) (by omega)))
  clear BL_216
  clear ow21 cw21 L_212
  go_wp2_with fail
  refine (markL_any _ _ _ n2 z2 (1 + (n0 : Int) + (n1 : Int)) _ L_222.out (by omega) (by omega) hbig2).mono ?_
  rintro e w22 ⟨rfl, ow22, cw22, zw22⟩
  have sw22 : w21.heap.size ≤ w22.heap.size := cw22.size
  clear zw22
  have L_226 := Lib.hid (L_217.out.same (cw22.sameIn (by omega) (by omega)))
  clear L_217
  have L_227 := Lib.hid (L_218.out.same (cw22.sameIn (by omega) (by omega)))
  clear L_218
  have L_228 := Lib.hid (L_219.out.same (cw22.sameIn (by omega) (by omega)))
  clear L_219
  have L_229 := Lib.hid (L_220.out.same (cw22.sameIn (by omega) (by omega)))
  clear L_220
  have L_230 := Lib.hid (L_221.out.same (cw22.sameIn (by omega) (by omega)))
  clear L_221
  have L_231 := Lib.hid (L_223.out.same (cw22.sameIn (by omega) (by omega)))
  clear L_223
  have L_232 := Lib.hid (L_224.out.same (cw22.sameIn (by omega) (by omega)))
  clear L_224
  have BL_233 := Lib.hid (BL_225.out.trans (cw22.below (by omega) (by omega)))
  clear BL_225
  clear ow22 cw22 L_222
  go_wp2_with fail
  refine (markL_any _ _ _ n3 z3 (1 + (n0 : Int) + (n1 : Int) + (n2 : Int)) _ L_231.out (by omega) (by omega) hbig3).mono ?_
  rintro e w23 ⟨rfl, ow23, cw23, zw23⟩
  have sw23 : w22.heap.size ≤ w23.heap.size := cw23.size
  clear zw23
  have L_234 := Lib.hid (L_226.out.same (cw23.sameIn (by omega) (by omega)))
  clear L_226
  have L_235 := Lib.hid (L_227.out.same (cw23.sameIn (by omega) (by omega)))
  clear L_227
  have L_236 := Lib.hid (L_228.out.same (cw23.sameIn (by omega) (by omega)))
  clear L_228
  have L_237 := Lib.hid (L_229.out.same (cw23.sameIn (by omega) (by omega)))
  clear L_229
  have L_238 := Lib.hid (L_230.out.same (cw23.sameIn (by omega) (by omega)))
  clear L_230
  have L_239 := Lib.hid (L_232.out.same (cw23.sameIn (by omega) (by omega)))
  clear L_232
  have BL_240 := Lib.hid (BL_233.out.trans (cw23.below (by omega) (by omega)))
  clear BL_233
  clear ow23 cw23 L_231
  have hkk : ¬ (1 + (n0 : Int) + (n1 : Int) + (n2 : Int) + (n3 : Int) < (0 : Int)) := by omega
  go_wp2_with fail
  refine (eqIntS_any _ _ _ _ _ _ n z z _ L_239.out.rd L_238.out (fun _ _ => rfl)).mono ?_
  intro e w24 hq
  obtain ⟨rfl, bw24⟩ := hq.below
  have sw24 : w23.heap.size ≤ w24.heap.size := bw24.size
  have L_241 := Lib.hid (L_234.out.same (SameIn.below bw24 (by omega)))
  clear L_234
  have L_242 := Lib.hid (L_235.out.same (SameIn.below bw24 (by omega)))
  clear L_235
  have L_243 := Lib.hid (L_236.out.same (SameIn.below bw24 (by omega)))
  clear L_236
  have L_244 := Lib.hid (L_237.out.same (SameIn.below bw24 (by omega)))
  clear L_237
  have L_245 := Lib.hid (L_238.out.same (SameIn.below bw24 (by omega)))
  clear L_238
  have L_246 := Lib.hid (L_239.out.same (SameIn.below bw24 (by omega)))
  clear L_239
  have BL_247 := Lib.hid (BL_240.out.trans (bw24.mono (by omega)))
  clear BL_240
  clear hq bw24
  go_wp2_with fail
  refine (markL_any _ _ _ n z (1) _ L_246.out (by omega) (by omega) hn).mono ?_
  rintro e w25 ⟨rfl, ow25, cw25, zw25⟩
  have sw25 : w24.heap.size ≤ w25.heap.size := cw25.size
  clear zw25
  have L_248 := Lib.hid (L_241.out.same (cw25.sameIn (by omega) (by omega)))
  clear L_241
  have L_249 := Lib.hid (L_242.out.same (cw25.sameIn (by omega) (by omega)))
  clear L_242
  have L_250 := Lib.hid (L_243.out.same (cw25.sameIn (by omega) (by omega)))
  clear L_243
  have L_251 := Lib.hid (L_244.out.same (cw25.sameIn (by omega) (by omega)))
  clear L_244
  have L_252 := Lib.hid (L_245.out.same (cw25.sameIn (by omega) (by omega)))
  clear L_245
  have BL_253 := Lib.hid (BL_247.out.trans (cw25.below (by omega) (by omega)))
  clear BL_247
  have M_254 := Lib.hid ow25
  clear ow25 cw25 L_246
  go_wp2_with fail
  refine (heldL_any _ _ _ n _ M_254.out hn).mono ?_
  rintro e w' ⟨rfl, rfl⟩
  go_wp2_with fail
  refine (toL_any _ 0 w.heap.size n0 z0 _ L_248.out hbig0 (by omega)).mono ?_
  rintro e w26 ⟨r_255, rfl, ⟨_, _, _, rfl⟩, ow26, bw26⟩
  have sw26 : w25.heap.size ≤ w26.heap.size := bw26.size
  have L_256 := Lib.hid (L_248.out.same (SameIn.below bw26 (by omega)))
  clear L_248
  have L_257 := Lib.hid (L_249.out.same (SameIn.below bw26 (by omega)))
  clear L_249
  have L_258 := Lib.hid (L_250.out.same (SameIn.below bw26 (by omega)))
  clear L_250
  have L_259 := Lib.hid (L_251.out.same (SameIn.below bw26 (by omega)))
  clear L_251
  have L_260 := Lib.hid (L_252.out.same (SameIn.below bw26 (by omega)))
  clear L_252
  have L_261 := Lib.hid (M_254.out.same (SameIn.below bw26 (by omega)))
  clear M_254
  have O_262 := Lib.hid ow26
  have BL_263 := Lib.hid (BL_253.out.trans (bw26.mono (by omega)))
  clear BL_253
  clear ow26 bw26
  go_wp2_with fail
  refine (toL_any _ 0 w.heap.size n1 z1 _ L_257.out hbig1 (by omega)).mono ?_
  rintro e w27 ⟨r_264, rfl, ⟨_, _, _, rfl⟩, ow27, bw27⟩
  have sw27 : w26.heap.size ≤ w27.heap.size := bw27.size
  have L_265 := Lib.hid (L_256.out.same (SameIn.below bw27 (by omega)))
  clear L_256
  have L_266 := Lib.hid (L_257.out.same (SameIn.below bw27 (by omega)))
  clear L_257
  have L_267 := Lib.hid (L_258.out.same (SameIn.below bw27 (by omega)))
  clear L_258
  have L_268 := Lib.hid (L_259.out.same (SameIn.below bw27 (by omega)))
  clear L_259
  have L_269 := Lib.hid (L_260.out.same (SameIn.below bw27 (by omega)))
  clear L_260
  have L_270 := Lib.hid (L_261.out.same (SameIn.below bw27 (by omega)))
  clear L_261
  have L_271 := Lib.hid (O_262.out.same (SameIn.below bw27 (by omega)))
  clear O_262
  have O_272 := Lib.hid ow27
  have BL_273 := Lib.hid (BL_263.out.trans (bw27.mono (by omega)))
  clear BL_263
  clear ow27 bw27
  go_wp2_with fail
  refine (toL_any _ 0 w.heap.size n2 z2 _ L_267.out hbig2 (by omega)).mono ?_
  rintro e w28 ⟨r_274, rfl, ⟨_, _, _, rfl⟩, ow28, bw28⟩
  have sw28 : w27.heap.size ≤ w28.heap.size := bw28.size
  have L_275 := Lib.hid (L_265.out.same (SameIn.below bw28 (by omega)))
  clear L_265
  have L_276 := Lib.hid (L_266.out.same (SameIn.below bw28 (by omega)))
  clear L_266
  have L_277 := Lib.hid (L_267.out.same (SameIn.below bw28 (by omega)))
  clear L_267
  have L_278 := Lib.hid (L_268.out.same (SameIn.below bw28 (by omega)))
  clear L_268
  have L_279 := Lib.hid (L_269.out.same (SameIn.below bw28 (by omega)))
  clear L_269
  have L_280 := Lib.hid (L_270.out.same (SameIn.below bw28 (by omega)))
  clear L_270
  have L_281 := Lib.hid (L_271.out.same (SameIn.below bw28 (by omega)))
  clear L_271
  have L_282 := Lib.hid (O_272.out.same (SameIn.below bw28 (by omega)))
  clear O_272
  have O_283 := Lib.hid ow28
  have BL_284 := Lib.hid (BL_273.out.trans (bw28.mono (by omega)))
  clear BL_273
  clear ow28 bw28
  go_wp2_with fail
  refine (toL_any _ 0 w.heap.size n3 z3 _ L_278.out hbig3 (by omega)).mono ?_
  rintro e w29 ⟨r_285, rfl, ⟨_, _, _, rfl⟩, ow29, bw29⟩
  have sw29 : w28.heap.size ≤ w29.heap.size := bw29.size
  have L_286 := Lib.hid (L_275.out.same (SameIn.below bw29 (by omega)))
  clear L_275
  have L_287 := Lib.hid (L_276.out.same (SameIn.below bw29 (by omega)))
  clear L_276
  have L_288 := Lib.hid (L_277.out.same (SameIn.below bw29 (by omega)))
  clear L_277
  have L_289 := Lib.hid (L_278.out.same (SameIn.below bw29 (by omega)))
  clear L_278
  have L_290 := Lib.hid (L_279.out.same (SameIn.below bw29 (by omega)))
  clear L_279
  have L_291 := Lib.hid (L_280.out.same (SameIn.below bw29 (by omega)))
  clear L_280
  have L_292 := Lib.hid (L_281.out.same (SameIn.below bw29 (by omega)))
  clear L_281
  have L_293 := Lib.hid (L_282.out.same (SameIn.below bw29 (by omega)))
  clear L_282
  have L_294 := Lib.hid (O_283.out.same (SameIn.below bw29 (by omega)))
  clear O_283
  have O_295 := Lib.hid ow29
  have BL_296 := Lib.hid (BL_284.out.trans (bw29.mono (by omega)))
  clear BL_284
  clear ow29 bw29
  go_wp2_with fail
  refine (HIM.out _ _ _ _ _ (L_292.out.rd.mono (Nat.zero_le _) (by omega)) (L_293.out.rd.mono (Nat.zero_le _) (by omega)) (L_294.out.rd.mono (Nat.zero_le _) (by omega)) (O_295.out.rd.mono (Nat.zero_le _) (by omega))).mono ?_
  rintro e w30 ⟨r_297, rfl, ⟨_, _, _, rfl⟩, ow30, bw30⟩
  have sw30 : w29.heap.size ≤ w30.heap.size := bw30.size
  have L_298 := Lib.hid (L_286.out.same (SameIn.below bw30 (by omega)))
  clear L_286
  have L_299 := Lib.hid (L_287.out.same (SameIn.below bw30 (by omega)))
  clear L_287
  have L_300 := Lib.hid (L_288.out.same (SameIn.below bw30 (by omega)))
  clear L_288
  have L_301 := Lib.hid (L_289.out.same (SameIn.below bw30 (by omega)))
  clear L_289
  have L_302 := Lib.hid (L_290.out.same (SameIn.below bw30 (by omega)))
  clear L_290
  have L_303 := Lib.hid (L_291.out.same (SameIn.below bw30 (by omega)))
  clear L_291
  have L_304 := Lib.hid (L_292.out.same (SameIn.below bw30 (by omega)))
  clear L_292
  have L_305 := Lib.hid (L_293.out.same (SameIn.below bw30 (by omega)))
  clear L_293
  have L_306 := Lib.hid (L_294.out.same (SameIn.below bw30 (by omega)))
  clear L_294
  have L_307 := Lib.hid (O_295.out.same (SameIn.below bw30 (by omega)))
  clear O_295
  have O_308 := Lib.hid ow30
  have BL_309 := Lib.hid (BL_296.out.trans (bw30.mono (by omega)))
  clear BL_296
  clear ow30 bw30
  go_wp2_with fail
  refine (eqIntS_any _ _ _ _ _ _ n z z _ O_308.out.rd L_302.out (fun _ _ => rfl)).mono ?_
  intro e w31 hq
  obtain ⟨rfl, bw31⟩ := hq.below
  have sw31 : w30.heap.size ≤ w31.heap.size := bw31.size
  have L_310 := Lib.hid (L_298.out.same (SameIn.below bw31 (by omega)))
  clear L_298
  have L_311 := Lib.hid (L_299.out.same (SameIn.below bw31 (by omega)))
  clear L_299
  have L_312 := Lib.hid (L_300.out.same (SameIn.below bw31 (by omega)))
  clear L_300
  have L_313 := Lib.hid (L_301.out.same (SameIn.below bw31 (by omega)))
  clear L_301
  have L_314 := Lib.hid (L_302.out.same (SameIn.below bw31 (by omega)))
  clear L_302
  have L_315 := Lib.hid (L_303.out.same (SameIn.below bw31 (by omega)))
  clear L_303
  have L_316 := Lib.hid (L_304.out.same (SameIn.below bw31 (by omega)))
  clear L_304
  have L_317 := Lib.hid (L_305.out.same (SameIn.below bw31 (by omega)))
  clear L_305
  have L_318 := Lib.hid (L_306.out.same (SameIn.below bw31 (by omega)))
  clear L_306
  have L_319 := Lib.hid (L_307.out.same (SameIn.below bw31 (by omega)))
  clear L_307
  have L_320 := Lib.hid (O_308.out.same (SameIn.below bw31 (by omega)))
  clear O_308
  have BL_321 := Lib.hid (BL_309.out.trans (bw31.mono (by omega)))
  clear BL_309
  clear hq bw31
  go_wp2_with fail
  refine (heldL_any _ _ _ n _ L_315.out hn).mono ?_
  rintro e w' ⟨rfl, rfl⟩
  go_wp2
  go_ret
  exact ⟨rfl, BL_321.out⟩

end Go.Proofs.Ytjepmnngphlgoaa
