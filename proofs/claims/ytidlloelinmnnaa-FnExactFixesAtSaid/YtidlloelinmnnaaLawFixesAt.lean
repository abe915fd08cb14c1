/- The exact law of FixesAt: its walk, out of the two functions' contracts. -/
import Derived.Test.YtidlloelinmnnaaEt
import Derived.Test.YtidlloelinmnnaaFb
import Derived.Test.YtidlloelinmnnaaHelp2
namespace Go.Proofs.Ytidlloelinmnnaa
open Go.RowKit
set_option linter.unusedVariables false

set_option maxRecDepth 20000 in
set_option maxHeartbeats 8000000 in
theorem law_FnExactFixesAt (v0 : Value) (g0 : G) (v1 : Value) (n1 : Nat) (z1 : Nat → Int) (a2 : Int) (a3 : Int) (w : World) (b : Bool) (n : Nat) (z : Nat → Int) (hv0 : RdM 0 w.heap.size w v0 g0) (hv1 : RdT 0 w.heap.size w v1 n1 z1) (ha2 : -9223372036854775808 ≤ a2 ∧ a2 ≤ 9223372036854775807) (ha3 : -9223372036854775808 ≤ a3 ∧ a3 ≤ 9223372036854775807)
    (hspec : n1 ≤ 1048576 → ∀ (u0 : Value) (u1 : Value) (W : World), RdM 0 W.heap.size W u0 g0 → RdT 0 W.heap.size W u1 n1 z1 → Calls Try.prog 17 #[u0, u1, .int .i64 a2, .int .i64 a3] W (LsPost b n z W))
    (himpl : n1 ≤ 1048576 → ∀ (u0 : Value) (u1 : Value) (W : World), RdM 0 W.heap.size W u0 g0 → RdT 0 W.heap.size W u1 n1 z1 → Calls Try.prog 20 #[u0, u1, .int .i64 a2, .int .i64 a3] W (LgPost b n z W))
    (hn : n1 ≤ 1048576 → n ≤ 1048576)
    : Calls Try.prog 3 #[v0, v1, .int .i64 a2, .int .i64 a3] w (LawPost w) := by
  obtain ⟨va1, vc1, rfl⟩ := hv1.shape
  have hmx1 : n1 ≤ 9223372036854775807 := by obtain ⟨_, _, _, _, he, q1, q2, _⟩ := hv1; simp only [Value.slice.injEq] at he; omega
  have HSZ1 := Lib.hid (fun (l : Int) (W : World) (h0 : 0 ≤ l) (h1 : l ≤ 1048576) => szFixS_q va1 n1 vc1 l W hmx1 h0 h1)
  have A0 := Lib.hid hv0
  have A1 := Lib.hid hv1
  have HSP := Lib.hid hspec
  have HIM := Lib.hid himpl
  have HNN := Lib.hid hn
  have hx : (b != b) = false := by simp
  have BL := Lib.hid (Below.refl w.heap.size w)
  clear hspec himpl hn hv0 hv1 hmx1
  go_enter Try.func3, Try.ntmps3
  go_wp2_with fail
  refine (szIntSS_any v0 0 w.heap.size g0 _ 1048576 A0.out (by omega) (by omega)).mono ?_
  rintro e w' ⟨rfl | ⟨l0, l00, l01, rfl, n0, hl0⟩, rfl⟩
  · go_wp2
    go_ret
    exact ⟨rfl, Below.refl _ _⟩
  have HL0 := Lib.hid hl0
  clear hl0
  go_wp2_with fail
  refine (HSZ1.out l0 _ l00 l01).mono ?_
  rintro e w' ⟨rfl | ⟨l1, l10, l11, rfl, hbig1⟩, rfl⟩
  · go_wp2
    go_ret
    exact ⟨rfl, Below.refl _ _⟩
  clear HSZ1
  have hn := HNN.out hbig1
  clear HNN
  go_wp2_with fail
  refine (toIntSS_any v0 0 w.heap.size g0 _ A0.out n0 HL0.out (by omega)).mono ?_
  rintro e w1 ⟨rfl, ow1, bw1⟩
  have sw1 : w.heap.size ≤ w1.heap.size := bw1.size
  have L_1 := Lib.hid (A0.out.same (SameIn.below bw1 (by omega)))
  clear A0
  have L_2 := Lib.hid (A1.out.same (SameIn.below bw1 (by omega)))
  clear A1
  have O_3 := Lib.hid ow1
  have BL_4 := Lib.hid (BL.out.trans (bw1.mono (by omega)))
  clear BL
  clear ow1 bw1
  go_wp2_with fail
  refine (toT_any _ 0 w.heap.size n1 z1 _ L_2.out hbig1 (by omega)).mono ?_
  rintro e w2 ⟨r_5, rfl, ⟨_, _, _, rfl⟩, ow2, bw2⟩
  have sw2 : w1.heap.size ≤ w2.heap.size := bw2.size
  have L_6 := Lib.hid (L_1.out.same (SameIn.below bw2 (by omega)))
  clear L_1
  have L_7 := Lib.hid (L_2.out.same (SameIn.below bw2 (by omega)))
  clear L_2
  have L_8 := Lib.hid (O_3.out.same (SameIn.below bw2 (by omega)))
  clear O_3
  have O_9 := Lib.hid ow2
  have BL_10 := Lib.hid (BL_4.out.trans (bw2.mono (by omega)))
  clear BL_4
  clear ow2 bw2
  go_wp2_with fail
  refine (HSP.out hbig1 _ _ _ (L_8.out.rd.mono (Nat.zero_le _) (by omega)) (O_9.out.rd.mono (Nat.zero_le _) (by omega))).mono ?_
  rintro e w3 ⟨r_11, rfl, ⟨_, _, _, rfl⟩, ow3, bw3⟩
  have sw3 : w2.heap.size ≤ w3.heap.size := bw3.size
  have L_12 := Lib.hid (L_6.out.same (SameIn.below bw3 (by omega)))
  clear L_6
  have L_13 := Lib.hid (L_7.out.same (SameIn.below bw3 (by omega)))
  clear L_7
  have L_14 := Lib.hid (L_8.out.same (SameIn.below bw3 (by omega)))
  clear L_8
  have L_15 := Lib.hid (O_9.out.same (SameIn.below bw3 (by omega)))
  clear O_9
  have O_16 := Lib.hid ow3
  have BL_17 := Lib.hid (BL_10.out.trans (bw3.mono (by omega)))
  clear BL_10
  clear ow3 bw3
  go_wp2_with fail
  refine (toIntSS_any v0 0 w.heap.size g0 _ L_12.out n0 HL0.out (by omega)).mono ?_
  rintro e w4 ⟨rfl, ow4, bw4⟩
  have sw4 : w3.heap.size ≤ w4.heap.size := bw4.size
  have L_18 := Lib.hid (L_12.out.same (SameIn.below bw4 (by omega)))
  clear L_12
  have L_19 := Lib.hid (L_13.out.same (SameIn.below bw4 (by omega)))
  clear L_13
  have L_20 := Lib.hid (O_16.out.same (SameIn.below bw4 (by omega)))
  clear O_16
  have O_21 := Lib.hid ow4
  have BL_22 := Lib.hid (BL_17.out.trans (bw4.mono (by omega)))
  clear BL_17
  clear ow4 bw4
  go_wp2_with fail
  refine (toT_any _ 0 w.heap.size n1 z1 _ L_19.out hbig1 (by omega)).mono ?_
  rintro e w5 ⟨r_23, rfl, ⟨_, _, _, rfl⟩, ow5, bw5⟩
  have sw5 : w4.heap.size ≤ w5.heap.size := bw5.size
  have L_24 := Lib.hid (L_18.out.same (SameIn.below bw5 (by omega)))
  clear L_18
  have L_25 := Lib.hid (L_19.out.same (SameIn.below bw5 (by omega)))
  clear L_19
  have L_26 := Lib.hid (L_20.out.same (SameIn.below bw5 (by omega)))
  clear L_20
  have L_27 := Lib.hid (O_21.out.same (SameIn.below bw5 (by omega)))
  clear O_21
  have O_28 := Lib.hid ow5
  have BL_29 := Lib.hid (BL_22.out.trans (bw5.mono (by omega)))
  clear BL_22
  clear ow5 bw5
  go_wp2_with fail
  refine (HIM.out hbig1 _ _ _ (L_27.out.rd.mono (Nat.zero_le _) (by omega)) (O_28.out.rd.mono (Nat.zero_le _) (by omega))).mono ?_
  rintro e w6 ⟨r_30, rfl, ⟨_, _, _, rfl⟩, ow6, bw6⟩
  have sw6 : w5.heap.size ≤ w6.heap.size := bw6.size
  have L_31 := Lib.hid (L_24.out.same (SameIn.below bw6 (by omega)))
  clear L_24
  have L_32 := Lib.hid (L_25.out.same (SameIn.below bw6 (by omega)))
  clear L_25
  have L_33 := Lib.hid (L_26.out.same (SameIn.below bw6 (by omega)))
  clear L_26
  have L_34 := Lib.hid (L_27.out.same (SameIn.below bw6 (by omega)))
  clear L_27
  have L_35 := Lib.hid (O_28.out.same (SameIn.below bw6 (by omega)))
  clear O_28
  have O_36 := Lib.hid ow6
  have BL_37 := Lib.hid (BL_29.out.trans (bw6.mono (by omega)))
  clear BL_29
  clear ow6 bw6
  go_wp2_with fail
  refine (eqIntS_any _ _ _ _ _ _ n z z _ O_36.out.rd L_33.out (fun _ _ => rfl)).mono ?_
  intro e w7 hq
  obtain ⟨rfl, bw7⟩ := hq.below
  clear hq
  have sw7 : w6.heap.size ≤ w7.heap.size := bw7.size
  have L_38 := Lib.hid (L_31.out.same (SameIn.below bw7 (by omega)))
  clear L_31
  have L_39 := Lib.hid (L_32.out.same (SameIn.below bw7 (by omega)))
  clear L_32
  have L_40 := Lib.hid (L_33.out.same (SameIn.below bw7 (by omega)))
  clear L_33
  have L_41 := Lib.hid (L_34.out.same (SameIn.below bw7 (by omega)))
  clear L_34
  have L_42 := Lib.hid (L_35.out.same (SameIn.below bw7 (by omega)))
  clear L_35
  have L_43 := Lib.hid (O_36.out.same (SameIn.below bw7 (by omega)))
  clear O_36
  have BL_44 := Lib.hid (BL_37.out.trans (bw7.mono (by omega)))
  clear BL_37
  clear bw7
  go_wp2_with fail
  refine (toIntSS_any v0 0 w.heap.size g0 _ L_38.out n0 HL0.out (by omega)).mono ?_
  rintro e w8 ⟨rfl, ow8, bw8⟩
  have sw8 : w7.heap.size ≤ w8.heap.size := bw8.size
  have L_45 := Lib.hid (L_38.out.same (SameIn.below bw8 (by omega)))
  clear L_38
  have L_46 := Lib.hid (L_39.out.same (SameIn.below bw8 (by omega)))
  clear L_39
  have L_47 := Lib.hid (L_40.out.same (SameIn.below bw8 (by omega)))
  clear L_40
  have L_48 := Lib.hid (L_41.out.same (SameIn.below bw8 (by omega)))
  clear L_41
  have L_49 := Lib.hid (L_42.out.same (SameIn.below bw8 (by omega)))
  clear L_42
  have L_50 := Lib.hid (L_43.out.same (SameIn.below bw8 (by omega)))
  clear L_43
  have O_51 := Lib.hid ow8
  have BL_52 := Lib.hid (BL_44.out.trans (bw8.mono (by omega)))
  clear BL_44
  clear ow8 bw8
  go_wp2_with fail
  refine (eqIntSS_any _ _ _ _ _ _ g0 _ L_48.out.rd O_51.out.rd).mono ?_
  intro e w9 hq
  obtain ⟨rfl, bw9⟩ := hq.below
  clear hq
  have sw9 : w8.heap.size ≤ w9.heap.size := bw9.size
  have L_53 := Lib.hid (L_45.out.same (SameIn.below bw9 (by omega)))
  clear L_45
  have L_54 := Lib.hid (L_46.out.same (SameIn.below bw9 (by omega)))
  clear L_46
  have L_55 := Lib.hid (L_47.out.same (SameIn.below bw9 (by omega)))
  clear L_47
  have L_56 := Lib.hid (L_48.out.same (SameIn.below bw9 (by omega)))
  clear L_48
  have L_57 := Lib.hid (L_49.out.same (SameIn.below bw9 (by omega)))
  clear L_49
  have L_58 := Lib.hid (L_50.out.same (SameIn.below bw9 (by omega)))
  clear L_50
  have L_59 := Lib.hid (O_51.out.same (SameIn.below bw9 (by omega)))
  clear O_51
  have BL_60 := Lib.hid (BL_52.out.trans (bw9.mono (by omega)))
  clear BL_52
  clear bw9
  go_wp2_with fail
  refine (toT_any _ 0 w.heap.size n1 z1 _ L_54.out hbig1 (by omega)).mono ?_
  rintro e w10 ⟨r_61, rfl, ⟨_, _, _, rfl⟩, ow10, bw10⟩
  have sw10 : w9.heap.size ≤ w10.heap.size := bw10.size
  have L_62 := Lib.hid (L_53.out.same (SameIn.below bw10 (by omega)))
  clear L_53
  have L_63 := Lib.hid (L_54.out.same (SameIn.below bw10 (by omega)))
  clear L_54
  have L_64 := Lib.hid (L_55.out.same (SameIn.below bw10 (by omega)))
  clear L_55
  have L_65 := Lib.hid (L_56.out.same (SameIn.below bw10 (by omega)))
  clear L_56
  have L_66 := Lib.hid (L_57.out.same (SameIn.below bw10 (by omega)))
  clear L_57
  have L_67 := Lib.hid (L_58.out.same (SameIn.below bw10 (by omega)))
  clear L_58
  have O_68 := Lib.hid ow10
  have BL_69 := Lib.hid (BL_60.out.trans (bw10.mono (by omega)))
  clear BL_60
  clear ow10 bw10
  go_wp2_with fail
  refine (eqT_any _ _ _ _ _ _ n1 z1 z1 _ L_66.out.rd O_68.out.rd (fun _ _ => rfl) (by omega) (by omega)).mono ?_
  rintro e w11 ⟨rfl, bw11⟩
  have sw11 : w10.heap.size ≤ w11.heap.size := bw11.size
  have L_70 := Lib.hid (L_62.out.same (SameIn.below bw11 (by omega)))
  clear L_62
  have L_71 := Lib.hid (L_63.out.same (SameIn.below bw11 (by omega)))
  clear L_63
  have L_72 := Lib.hid (L_64.out.same (SameIn.below bw11 (by omega)))
  clear L_64
  have L_73 := Lib.hid (L_65.out.same (SameIn.below bw11 (by omega)))
  clear L_65
  have L_74 := Lib.hid (L_66.out.same (SameIn.below bw11 (by omega)))
  clear L_66
  have L_75 := Lib.hid (L_67.out.same (SameIn.below bw11 (by omega)))
  clear L_67
  have L_76 := Lib.hid (O_68.out.same (SameIn.below bw11 (by omega)))
  clear O_68
  have BL_77 := Lib.hid (BL_69.out.trans (bw11.mono (by omega)))
  clear BL_69
  clear bw11
  go_wp2_with fail
  refine (markIntSS_big _ _ _ g0 (1) _ L_73.out (by omega) (by omega) n0 HL0.out).mono ?_
  rintro e w12 ⟨rfl, ow12, cw12, zw12⟩
  have sw12 : w11.heap.size ≤ w12.heap.size := cw12.size
  clear zw12
  have L_78 := Lib.hid (L_70.out.same (cw12.sameIn (by omega) (by omega)))
  clear L_70
  have L_79 := Lib.hid (L_71.out.same (cw12.sameIn (by omega) (by omega)))
  clear L_71
  have L_80 := Lib.hid (L_72.out.same (cw12.sameIn (by omega) (by omega)))
  clear L_72
  have L_81 := Lib.hid (L_74.out.same (cw12.sameIn (by omega) (by omega)))
  clear L_74
  have L_82 := Lib.hid (L_75.out.same (cw12.sameIn (by omega) (by omega)))
  clear L_75
  have BL_83 := Lib.hid (BL_77.out.trans (cw12.below (by omega) (by omega)))
  clear BL_77
  clear ow12 cw12 L_73
  have hoff0 := g0.off_n n0 HL0.out
  go_wp2_with fail
  refine (markT_any _ _ _ n1 z1 (1 + (g0.off g0.n : Int)) _ L_81.out (by omega) (by omega) hbig1).mono ?_
  rintro e w13 ⟨rfl, ow13, cw13, zw13⟩
  have sw13 : w12.heap.size ≤ w13.heap.size := cw13.size
  clear zw13
  have L_84 := Lib.hid (L_78.out.same (cw13.sameIn (by omega) (by omega)))
  clear L_78
  have L_85 := Lib.hid (L_79.out.same (cw13.sameIn (by omega) (by omega)))
  clear L_79
  have L_86 := Lib.hid (L_80.out.same (cw13.sameIn (by omega) (by omega)))
  clear L_80
  have L_87 := Lib.hid (L_82.out.same (cw13.sameIn (by omega) (by omega)))
  clear L_82
  have BL_88 := Lib.hid (BL_83.out.trans (cw13.below (by omega) (by omega)))
  clear BL_83
  clear ow13 cw13 L_81
  have hkk : ¬ (1 + (g0.off g0.n : Int) + (n1 : Int) * 4 < (0 : Int)) := by omega
  go_wp2_with fail
  refine (eqIntS_any _ _ _ _ _ _ n z z _ L_87.out.rd L_86.out (fun _ _ => rfl)).mono ?_
  intro e w14 hq
  obtain ⟨rfl, bw14⟩ := hq.below
  clear hq
  have sw14 : w13.heap.size ≤ w14.heap.size := bw14.size
  have L_89 := Lib.hid (L_84.out.same (SameIn.below bw14 (by omega)))
  clear L_84
  have L_90 := Lib.hid (L_85.out.same (SameIn.below bw14 (by omega)))
  clear L_85
  have L_91 := Lib.hid (L_86.out.same (SameIn.below bw14 (by omega)))
  clear L_86
  have L_92 := Lib.hid (L_87.out.same (SameIn.below bw14 (by omega)))
  clear L_87
  have BL_93 := Lib.hid (BL_88.out.trans (bw14.mono (by omega)))
  clear BL_88
  clear bw14
  have hqq : ¬ ((1 : Int) + (n : Int) < 0) := by omega
  have hqx : ((1 : Int) + (n : Int) != 1 + (n : Int)) = false := by simp
  go_wp2_with fail
  refine (markL_any _ _ _ n z (1) _ L_92.out (by omega) (by omega) hn).mono ?_
  rintro e w15 ⟨rfl, ow15, cw15, zw15⟩
  have sw15 : w14.heap.size ≤ w15.heap.size := cw15.size
  clear zw15
  have L_94 := Lib.hid (L_89.out.same (cw15.sameIn (by omega) (by omega)))
  clear L_89
  have L_95 := Lib.hid (L_90.out.same (cw15.sameIn (by omega) (by omega)))
  clear L_90
  have L_96 := Lib.hid (L_91.out.same (cw15.sameIn (by omega) (by omega)))
  clear L_91
  have BL_97 := Lib.hid (BL_93.out.trans (cw15.below (by omega) (by omega)))
  clear BL_93
  have M_98 := Lib.hid ow15
  clear ow15 cw15 L_92
  go_wp2_with fail
  refine (heldL_any _ _ _ n _ M_98.out hn).mono ?_
  rintro e w' ⟨rfl, rfl⟩
  go_wp2_with fail
  refine (toIntSS_any v0 0 w.heap.size g0 _ L_94.out n0 HL0.out (by omega)).mono ?_
  rintro e w16 ⟨rfl, ow16, bw16⟩
  have sw16 : w15.heap.size ≤ w16.heap.size := bw16.size
  have L_99 := Lib.hid (L_94.out.same (SameIn.below bw16 (by omega)))
  clear L_94
  have L_100 := Lib.hid (L_95.out.same (SameIn.below bw16 (by omega)))
  clear L_95
  have L_101 := Lib.hid (L_96.out.same (SameIn.below bw16 (by omega)))
  clear L_96
  have L_102 := Lib.hid (M_98.out.same (SameIn.below bw16 (by omega)))
  clear M_98
  have O_103 := Lib.hid ow16
  have BL_104 := Lib.hid (BL_97.out.trans (bw16.mono (by omega)))
  clear BL_97
  clear ow16 bw16
  go_wp2_with fail
  refine (toT_any _ 0 w.heap.size n1 z1 _ L_100.out hbig1 (by omega)).mono ?_
  rintro e w17 ⟨r_105, rfl, ⟨_, _, _, rfl⟩, ow17, bw17⟩
  have sw17 : w16.heap.size ≤ w17.heap.size := bw17.size
  have L_106 := Lib.hid (L_99.out.same (SameIn.below bw17 (by omega)))
  clear L_99
  have L_107 := Lib.hid (L_100.out.same (SameIn.below bw17 (by omega)))
  clear L_100
  have L_108 := Lib.hid (L_101.out.same (SameIn.below bw17 (by omega)))
  clear L_101
  have L_109 := Lib.hid (L_102.out.same (SameIn.below bw17 (by omega)))
  clear L_102
  have L_110 := Lib.hid (O_103.out.same (SameIn.below bw17 (by omega)))
  clear O_103
  have O_111 := Lib.hid ow17
  have BL_112 := Lib.hid (BL_104.out.trans (bw17.mono (by omega)))
  clear BL_104
  clear ow17 bw17
  go_wp2_with fail
  refine (HIM.out hbig1 _ _ _ (L_110.out.rd.mono (Nat.zero_le _) (by omega)) (O_111.out.rd.mono (Nat.zero_le _) (by omega))).mono ?_
  rintro e w18 ⟨r_113, rfl, ⟨_, _, _, rfl⟩, ow18, bw18⟩
  have sw18 : w17.heap.size ≤ w18.heap.size := bw18.size
  have L_114 := Lib.hid (L_106.out.same (SameIn.below bw18 (by omega)))
  clear L_106
  have L_115 := Lib.hid (L_107.out.same (SameIn.below bw18 (by omega)))
  clear L_107
  have L_116 := Lib.hid (L_108.out.same (SameIn.below bw18 (by omega)))
  clear L_108
  have L_117 := Lib.hid (L_109.out.same (SameIn.below bw18 (by omega)))
  clear L_109
  have L_118 := Lib.hid (L_110.out.same (SameIn.below bw18 (by omega)))
  clear L_110
  have L_119 := Lib.hid (O_111.out.same (SameIn.below bw18 (by omega)))
  clear O_111
  have O_120 := Lib.hid ow18
  have BL_121 := Lib.hid (BL_112.out.trans (bw18.mono (by omega)))
  clear BL_112
  clear ow18 bw18
  go_wp2_with fail
  refine (eqIntS_any _ _ _ _ _ _ n z z _ O_120.out.rd L_116.out (fun _ _ => rfl)).mono ?_
  intro e w19 hq
  obtain ⟨rfl, bw19⟩ := hq.below
  clear hq
  have sw19 : w18.heap.size ≤ w19.heap.size := bw19.size
  have L_122 := Lib.hid (L_114.out.same (SameIn.below bw19 (by omega)))
  clear L_114
  have L_123 := Lib.hid (L_115.out.same (SameIn.below bw19 (by omega)))
  clear L_115
  have L_124 := Lib.hid (L_116.out.same (SameIn.below bw19 (by omega)))
  clear L_116
  have L_125 := Lib.hid (L_117.out.same (SameIn.below bw19 (by omega)))
  clear L_117
  have L_126 := Lib.hid (L_118.out.same (SameIn.below bw19 (by omega)))
  clear L_118
  have L_127 := Lib.hid (L_119.out.same (SameIn.below bw19 (by omega)))
  clear L_119
  have L_128 := Lib.hid (O_120.out.same (SameIn.below bw19 (by omega)))
  clear O_120
  have BL_129 := Lib.hid (BL_121.out.trans (bw19.mono (by omega)))
  clear BL_121
  clear bw19
  go_wp2_with fail
  refine (heldL_any _ _ _ n _ L_125.out hn).mono ?_
  rintro e w' ⟨rfl, rfl⟩
  go_wp2
  go_ret
  exact ⟨rfl, BL_129.out⟩

end Go.Proofs.Ytidlloelinmnnaa
