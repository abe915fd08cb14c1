/- The exact law of GridsMend: its walk, out of the two functions' contracts. -/
import Derived.Test.YtbjhaggncpkdhaaMdI
import Derived.Test.YtbjhaggncpkdhaaHelp2
namespace Go.Proofs.Ytbjhaggncpkdhaa
open Go.RowKit
set_option linter.unusedVariables false

theorem heldMark_k (v : Value) (lo hi : Nat) (g : G) (k : Int) (w : World) (hv : OwM lo hi w v (g.mark k)) (h0 : 0 ≤ k) (h1 : k ≤ 1048576) (hn : g.n ≤ 1048576) (hl : ∀ r, r < g.n → g.len r ≤ 1048576) :
    Calls Try.prog 21 #[v, .int .i64 k] w (HePost (k + g.off g.n) w) := by
  have h := heldIntSS_any v lo hi (g.mark k) k w hv.rd (fun r _ c _ => by show k + g.off r + c = k + (g.mark k).off r + c; rw [G.off_marked]) h0 h1 hn hl
  rw [G.off_marked] at h
  exact h

set_option maxHeartbeats 8000000 in
set_option maxRecDepth 20000 in
theorem law_FnExactGridsMend (v0 : Value) (g0 : G) (v1 : Value) (g1 : G) (w : World) (b : Bool) (g h : G) (hv0 : RdM 0 w.heap.size w v0 g0) (hv1 : RdM 0 w.heap.size w v1 g1)
    (hspec : ∀ (u0 : Value) (u1 : Value) (W : World) (lo hi : Nat), RdM lo hi W u0 g0 → RdM lo hi W u1 g1 → hi ≤ W.heap.size → Calls Try.prog 22 #[u0, u1] W (SPost2 b g h W))
    (himpl : ∀ (u0 : Value) (u1 : Value) (W : World) (lo hi : Nat), RdM lo hi W u0 g0 → RdM lo hi W u1 g1 → hi ≤ W.heap.size → Calls Try.prog 23 #[u0, u1] W (GPost2 b g h W))
    (hgn : g.n ≤ 1048576) (hgl : ∀ r, r < g.n → g.len r ≤ 1048576) (hhn : h.n ≤ 1048576) (hhl : ∀ r, r < h.n → h.len r ≤ 1048576) (hof : g.off g.n ≤ 1000000) :
    Calls Try.prog 7 #[v0, v1] w (LawPost w) := by
  have HSP := Lib.hid hspec
  have HIM := Lib.hid himpl
  have HGL := Lib.hid hgl
  have HHL := Lib.hid hhl
  have hx : (b != b) = false := by simp
  have A0 := Lib.hid hv0
  have A1 := Lib.hid hv1
  have BL := Lib.hid (Below.refl w.heap.size w)
  clear hspec himpl hgl hhl hv0 hv1
  go_enter Try.func7, Try.ntmps7
  go_wp2_with fail
  refine (szIntSS_any v0 0 w.heap.size g0 _ 1048576 A0.out (by omega) (by omega)).mono ?_
  rintro e w' ⟨rfl | ⟨l0, l00, l01, rfl, n0, hl0⟩, rfl⟩
  · go_wp2
    go_ret
    exact ⟨rfl, Below.refl _ _⟩
  ·
    have HL0 := Lib.hid hl0
    clear hl0
    go_wp2_with fail
    refine (szIntSS_any v1 0 w.heap.size g1 _ l0 A1.out l00 l01).mono ?_
    rintro e w' ⟨rfl | ⟨l1, l10, l11, rfl, n1, hl1⟩, rfl⟩
    · go_wp2
      go_ret
      exact ⟨rfl, Below.refl _ _⟩
    have HL1 := Lib.hid hl1
    clear hl1
    go_wp2_with fail
    refine (toIntSS_any v0 0 w.heap.size g0 _ A0.out n0 HL0.out (by omega)).mono ?_
    rintro e w1 ⟨rfl, ow1, bw1⟩
    have sw1 : w.heap.size ≤ w1.heap.size := bw1.size
    have L_1 := Lib.hid (A0.out.same (SameIn.below bw1 (by omega)))
    clear A0
    have L_2 := Lib.hid (A1.out.same (SameIn.below bw1 (by omega)))
    clear A1
    have O_3 := Lib.hid ow1
    have BL_4 := Lib.hid (BL.out.trans (bw1.mono (by omega)))
    clear BL
    clear ow1 bw1
    go_wp2_with fail
    refine (toIntSS_any v1 0 w.heap.size g1 _ L_2.out n1 HL1.out (by omega)).mono ?_
    rintro e w2 ⟨rfl, ow2, bw2⟩
    have sw2 : w1.heap.size ≤ w2.heap.size := bw2.size
    have L_5 := Lib.hid (L_1.out.same (SameIn.below bw2 (by omega)))
    clear L_1
    have L_6 := Lib.hid (L_2.out.same (SameIn.below bw2 (by omega)))
    clear L_2
    have L_7 := Lib.hid (O_3.out.same (SameIn.below bw2 (by omega)))
    clear O_3
    have O_8 := Lib.hid ow2
    have BL_9 := Lib.hid (BL_4.out.trans (bw2.mono (by omega)))
    clear BL_4
    clear ow2 bw2
    go_wp2_with fail
    refine (HSP.out _ _ _ 0 w2.heap.size (L_7.out.rd.mono (Nat.zero_le _) (by omega)) (O_8.out.rd.mono (Nat.zero_le _) (by omega)) (Nat.le_refl _)).mono ?_
    rintro e w3 ⟨r_10, t_11, rfl, ⟨_, _, _, rfl⟩, ⟨_, _, _, rfl⟩, ow3, pw3, bw3⟩
    have sw3 : w2.heap.size ≤ w3.heap.size := bw3.size
    have L_13 := Lib.hid (L_5.out.same (SameIn.below bw3 (by omega)))
    clear L_5
    have L_14 := Lib.hid (L_6.out.same (SameIn.below bw3 (by omega)))
    clear L_6
    have L_15 := Lib.hid (L_7.out.same (SameIn.below bw3 (by omega)))
    clear L_7
    have L_16 := Lib.hid (O_8.out.same (SameIn.below bw3 (by omega)))
    clear O_8
    have O_17 := Lib.hid ow3
    have O_18 := Lib.hid pw3
    have BL_19 := Lib.hid (BL_9.out.trans (bw3.mono (by omega)))
    clear BL_9
    clear ow3 pw3 bw3
    go_wp2_with fail
    refine (toIntSS_any v0 0 w.heap.size g0 _ L_13.out n0 HL0.out (by omega)).mono ?_
    rintro e w4 ⟨rfl, ow4, bw4⟩
    have sw4 : w3.heap.size ≤ w4.heap.size := bw4.size
    have L_20 := Lib.hid (L_13.out.same (SameIn.below bw4 (by omega)))
    clear L_13
    have L_21 := Lib.hid (L_14.out.same (SameIn.below bw4 (by omega)))
    clear L_14
    have L_22 := Lib.hid (O_17.out.same (SameIn.below bw4 (by omega)))
    clear O_17
    have L_23 := Lib.hid (O_18.out.same (SameIn.below bw4 (by omega)))
    clear O_18
    have O_24 := Lib.hid ow4
    have BL_25 := Lib.hid (BL_19.out.trans (bw4.mono (by omega)))
    clear BL_19
    clear ow4 bw4
    go_wp2_with fail
    refine (toIntSS_any v1 0 w.heap.size g1 _ L_21.out n1 HL1.out (by omega)).mono ?_
    rintro e w5 ⟨rfl, ow5, bw5⟩
    have sw5 : w4.heap.size ≤ w5.heap.size := bw5.size
    have L_26 := Lib.hid (L_20.out.same (SameIn.below bw5 (by omega)))
    clear L_20
    have L_27 := Lib.hid (L_21.out.same (SameIn.below bw5 (by omega)))
    clear L_21
    have L_28 := Lib.hid (L_22.out.same (SameIn.below bw5 (by omega)))
    clear L_22
    have L_29 := Lib.hid (L_23.out.same (SameIn.below bw5 (by omega)))
    clear L_23
    have L_30 := Lib.hid (O_24.out.same (SameIn.below bw5 (by omega)))
    clear O_24
    have O_31 := Lib.hid ow5
    have BL_32 := Lib.hid (BL_25.out.trans (bw5.mono (by omega)))
    clear BL_25
    clear ow5 bw5
    go_wp2_with fail
    refine (HIM.out _ _ _ 0 w5.heap.size (L_30.out.rd.mono (Nat.zero_le _) (by omega)) (O_31.out.rd.mono (Nat.zero_le _) (by omega)) (Nat.le_refl _)).mono ?_
    rintro e w6 ⟨r_33, t_34, m_35, rfl, ⟨_, _, _, rfl⟩, ⟨_, _, _, rfl⟩, h1w6, h2w6, ow6, pw6, bw6⟩
    have sw6 : w5.heap.size ≤ w6.heap.size := bw6.size
    have L_36 := Lib.hid (L_26.out.same (SameIn.below bw6 (by omega)))
    clear L_26
    have L_37 := Lib.hid (L_27.out.same (SameIn.below bw6 (by omega)))
    clear L_27
    have L_38 := Lib.hid (L_28.out.same (SameIn.below bw6 (by omega)))
    clear L_28
    have L_39 := Lib.hid (L_29.out.same (SameIn.below bw6 (by omega)))
    clear L_29
    have L_40 := Lib.hid (L_30.out.same (SameIn.below bw6 (by omega)))
    clear L_30
    have L_41 := Lib.hid (O_31.out.same (SameIn.below bw6 (by omega)))
    clear O_31
    have O_42 := Lib.hid ow6
    have O_43 := Lib.hid pw6
    have BL_44 := Lib.hid (BL_32.out.trans (bw6.mono (by omega)))
    clear BL_32
    clear ow6 pw6 bw6
    go_wp2_with fail
    refine (eqIntSS_any _ _ _ _ _ _ g _ O_42.out.rd L_38.out).mono ?_
    intro e w7 hq
    obtain ⟨rfl, bw7⟩ := hq.below
    have sw7 : w6.heap.size ≤ w7.heap.size := bw7.size
    have L_45 := Lib.hid (L_36.out.same (SameIn.below bw7 (by omega)))
    clear L_36
    have L_46 := Lib.hid (L_37.out.same (SameIn.below bw7 (by omega)))
    clear L_37
    have L_47 := Lib.hid (L_38.out.same (SameIn.below bw7 (by omega)))
    clear L_38
    have L_48 := Lib.hid (L_39.out.same (SameIn.below bw7 (by omega)))
    clear L_39
    have L_49 := Lib.hid (L_40.out.same (SameIn.below bw7 (by omega)))
    clear L_40
    have L_50 := Lib.hid (L_41.out.same (SameIn.below bw7 (by omega)))
    clear L_41
    have L_51 := Lib.hid (O_42.out.same (SameIn.below bw7 (by omega)))
    clear O_42
    have L_52 := Lib.hid (O_43.out.same (SameIn.below bw7 (by omega)))
    clear O_43
    have BL_53 := Lib.hid (BL_44.out.trans (bw7.mono (by omega)))
    clear BL_44
    clear hq bw7
    go_wp2_with fail
    refine (eqIntSS_any _ _ _ _ _ _ h _ L_52.out.rd L_48.out).mono ?_
    intro e w8 hq
    obtain ⟨rfl, bw8⟩ := hq.below
    have sw8 : w7.heap.size ≤ w8.heap.size := bw8.size
    have L_54 := Lib.hid (L_45.out.same (SameIn.below bw8 (by omega)))
    clear L_45
    have L_55 := Lib.hid (L_46.out.same (SameIn.below bw8 (by omega)))
    clear L_46
    have L_56 := Lib.hid (L_47.out.same (SameIn.below bw8 (by omega)))
    clear L_47
    have L_57 := Lib.hid (L_48.out.same (SameIn.below bw8 (by omega)))
    clear L_48
    have L_58 := Lib.hid (L_49.out.same (SameIn.below bw8 (by omega)))
    clear L_49
    have L_59 := Lib.hid (L_50.out.same (SameIn.below bw8 (by omega)))
    clear L_50
    have L_60 := Lib.hid (L_51.out.same (SameIn.below bw8 (by omega)))
    clear L_51
    have L_61 := Lib.hid (L_52.out.same (SameIn.below bw8 (by omega)))
    clear L_52
    have BL_62 := Lib.hid (BL_53.out.trans (bw8.mono (by omega)))
    clear BL_53
    clear hq bw8
    go_wp2_with fail
    refine (toIntSS_any v0 0 w.heap.size g0 _ L_54.out n0 HL0.out (by omega)).mono ?_
    rintro e w9 ⟨rfl, ow9, bw9⟩
    have sw9 : w8.heap.size ≤ w9.heap.size := bw9.size
    have L_63 := Lib.hid (L_54.out.same (SameIn.below bw9 (by omega)))
    clear L_54
    have L_64 := Lib.hid (L_55.out.same (SameIn.below bw9 (by omega)))
    clear L_55
    have L_65 := Lib.hid (L_56.out.same (SameIn.below bw9 (by omega)))
    clear L_56
    have L_66 := Lib.hid (L_57.out.same (SameIn.below bw9 (by omega)))
    clear L_57
    have L_67 := Lib.hid (L_58.out.same (SameIn.below bw9 (by omega)))
    clear L_58
    have L_68 := Lib.hid (L_59.out.same (SameIn.below bw9 (by omega)))
    clear L_59
    have L_69 := Lib.hid (L_60.out.same (SameIn.below bw9 (by omega)))
    clear L_60
    have L_70 := Lib.hid (L_61.out.same (SameIn.below bw9 (by omega)))
    clear L_61
    have O_71 := Lib.hid ow9
    have BL_72 := Lib.hid (BL_62.out.trans (bw9.mono (by omega)))
    clear BL_62
    clear ow9 bw9
    go_wp2_with fail
    refine (eqIntSS_any _ _ _ _ _ _ g0 _ L_67.out.rd O_71.out.rd).mono ?_
    intro e w10 hq
    obtain ⟨rfl, bw10⟩ := hq.below
    have sw10 : w9.heap.size ≤ w10.heap.size := bw10.size
    have L_73 := Lib.hid (L_63.out.same (SameIn.below bw10 (by omega)))
    clear L_63
    have L_74 := Lib.hid (L_64.out.same (SameIn.below bw10 (by omega)))
    clear L_64
    have L_75 := Lib.hid (L_65.out.same (SameIn.below bw10 (by omega)))
    clear L_65
    have L_76 := Lib.hid (L_66.out.same (SameIn.below bw10 (by omega)))
    clear L_66
    have L_77 := Lib.hid (L_67.out.same (SameIn.below bw10 (by omega)))
    clear L_67
    have L_78 := Lib.hid (L_68.out.same (SameIn.below bw10 (by omega)))
    clear L_68
    have L_79 := Lib.hid (L_69.out.same (SameIn.below bw10 (by omega)))
    clear L_69
    have L_80 := Lib.hid (L_70.out.same (SameIn.below bw10 (by omega)))
    clear L_70
    have L_81 := Lib.hid (O_71.out.same (SameIn.below bw10 (by omega)))
    clear O_71
    have BL_82 := Lib.hid (BL_72.out.trans (bw10.mono (by omega)))
    clear BL_72
    clear hq bw10
    go_wp2_with fail
    refine (toIntSS_any v1 0 w.heap.size g1 _ L_74.out n1 HL1.out (by omega)).mono ?_
    rintro e w11 ⟨rfl, ow11, bw11⟩
    have sw11 : w10.heap.size ≤ w11.heap.size := bw11.size
    have L_83 := Lib.hid (L_73.out.same (SameIn.below bw11 (by omega)))
    clear L_73
    have L_84 := Lib.hid (L_74.out.same (SameIn.below bw11 (by omega)))
    clear L_74
    have L_85 := Lib.hid (L_75.out.same (SameIn.below bw11 (by omega)))
    clear L_75
    have L_86 := Lib.hid (L_76.out.same (SameIn.below bw11 (by omega)))
    clear L_76
    have L_87 := Lib.hid (L_77.out.same (SameIn.below bw11 (by omega)))
    clear L_77
    have L_88 := Lib.hid (L_78.out.same (SameIn.below bw11 (by omega)))
    clear L_78
    have L_89 := Lib.hid (L_79.out.same (SameIn.below bw11 (by omega)))
    clear L_79
    have L_90 := Lib.hid (L_80.out.same (SameIn.below bw11 (by omega)))
    clear L_80
    have O_91 := Lib.hid ow11
    have BL_92 := Lib.hid (BL_82.out.trans (bw11.mono (by omega)))
    clear BL_82
    clear ow11 bw11
    go_wp2_with fail
    refine (eqIntSS_any _ _ _ _ _ _ g1 _ L_88.out.rd O_91.out.rd).mono ?_
    intro e w12 hq
    obtain ⟨rfl, bw12⟩ := hq.below
    have sw12 : w11.heap.size ≤ w12.heap.size := bw12.size
    have L_93 := Lib.hid (L_83.out.same (SameIn.below bw12 (by omega)))
    clear L_83
    have L_94 := Lib.hid (L_84.out.same (SameIn.below bw12 (by omega)))
    clear L_84
    have L_95 := Lib.hid (L_85.out.same (SameIn.below bw12 (by omega)))
    clear L_85
    have L_96 := Lib.hid (L_86.out.same (SameIn.below bw12 (by omega)))
    clear L_86
    have L_97 := Lib.hid (L_87.out.same (SameIn.below bw12 (by omega)))
    clear L_87
    have L_98 := Lib.hid (L_88.out.same (SameIn.below bw12 (by omega)))
    clear L_88
    have L_99 := Lib.hid (L_89.out.same (SameIn.below bw12 (by omega)))
    clear L_89
    have L_100 := Lib.hid (L_90.out.same (SameIn.below bw12 (by omega)))
    clear L_90
    have L_101 := Lib.hid (O_91.out.same (SameIn.below bw12 (by omega)))
    clear O_91
    have BL_102 := Lib.hid (BL_92.out.trans (bw12.mono (by omega)))
    clear BL_92
    clear hq bw12
    go_wp2_with fail
    refine (markIntSS_big _ _ _ g0 1 _ L_97.out (by omega) (by omega) n0 HL0.out).mono ?_
    rintro e w13 ⟨rfl, ow13, cw13, zw13⟩
    have sw13 : w12.heap.size ≤ w13.heap.size := cw13.size
    clear zw13
    have L_103 := Lib.hid (L_93.out.same (cw13.sameIn (by omega) (by omega)))
    clear L_93
    have L_104 := Lib.hid (L_94.out.same (cw13.sameIn (by omega) (by omega)))
    clear L_94
    have L_105 := Lib.hid (L_95.out.same (cw13.sameIn (by omega) (by omega)))
    clear L_95
    have L_106 := Lib.hid (L_96.out.same (cw13.sameIn (by omega) (by omega)))
    clear L_96
    have L_107 := Lib.hid (L_98.out.same (cw13.sameIn (by omega) (by omega)))
    clear L_98
    have L_108 := Lib.hid (L_99.out.same (cw13.sameIn (by omega) (by omega)))
    clear L_99
    have L_109 := Lib.hid (L_100.out.same (cw13.sameIn (by omega) (by omega)))
    clear L_100
    have BL_110 := Lib.hid (BL_102.out.trans (cw13.below (by omega) (by omega)))
    clear BL_102
    clear ow13 cw13 L_97
    have hoff := g0.off_n n0 HL0.out
    go_wp2_with fail
    refine (markIntSS_big _ _ _ g1 (1 + g0.off g0.n) _ L_107.out (by omega) (by omega) n1 HL1.out).mono ?_
    rintro e w14 ⟨rfl, ow14, cw14, zw14⟩
    have sw14 : w13.heap.size ≤ w14.heap.size := cw14.size
    clear zw14
    have L_111 := Lib.hid (L_103.out.same (cw14.sameIn (by omega) (by omega)))
    clear L_103
    have L_112 := Lib.hid (L_104.out.same (cw14.sameIn (by omega) (by omega)))
    clear L_104
    have L_113 := Lib.hid (L_105.out.same (cw14.sameIn (by omega) (by omega)))
    clear L_105
    have L_114 := Lib.hid (L_106.out.same (cw14.sameIn (by omega) (by omega)))
    clear L_106
    have L_115 := Lib.hid (L_108.out.same (cw14.sameIn (by omega) (by omega)))
    clear L_108
    have L_116 := Lib.hid (L_109.out.same (cw14.sameIn (by omega) (by omega)))
    clear L_109
    have BL_117 := Lib.hid (BL_110.out.trans (cw14.below (by omega) (by omega)))
    clear BL_110
    clear ow14 cw14 L_107
    go_wp2_with fail
    refine (eqIntSS_any _ _ _ _ _ _ g _ L_115.out.rd L_113.out).mono ?_
    intro e w15 hq
    obtain ⟨rfl, bw15⟩ := hq.below
    have sw15 : w14.heap.size ≤ w15.heap.size := bw15.size
    have L_118 := Lib.hid (L_111.out.same (SameIn.below bw15 (by omega)))
    clear L_111
    have L_119 := Lib.hid (L_112.out.same (SameIn.below bw15 (by omega)))
    clear L_112
    have L_120 := Lib.hid (L_113.out.same (SameIn.below bw15 (by omega)))
    clear L_113
    have L_121 := Lib.hid (L_114.out.same (SameIn.below bw15 (by omega)))
    clear L_114
    have L_122 := Lib.hid (L_115.out.same (SameIn.below bw15 (by omega)))
    clear L_115
    have L_123 := Lib.hid (L_116.out.same (SameIn.below bw15 (by omega)))
    clear L_116
    have BL_124 := Lib.hid (BL_117.out.trans (bw15.mono (by omega)))
    clear BL_117
    clear hq bw15
    go_wp2_with fail
    refine (eqIntSS_any _ _ _ _ _ _ h _ L_123.out.rd L_121.out).mono ?_
    intro e w16 hq
    obtain ⟨rfl, bw16⟩ := hq.below
    have sw16 : w15.heap.size ≤ w16.heap.size := bw16.size
    have L_125 := Lib.hid (L_118.out.same (SameIn.below bw16 (by omega)))
    clear L_118
    have L_126 := Lib.hid (L_119.out.same (SameIn.below bw16 (by omega)))
    clear L_119
    have L_127 := Lib.hid (L_120.out.same (SameIn.below bw16 (by omega)))
    clear L_120
    have L_128 := Lib.hid (L_121.out.same (SameIn.below bw16 (by omega)))
    clear L_121
    have L_129 := Lib.hid (L_122.out.same (SameIn.below bw16 (by omega)))
    clear L_122
    have L_130 := Lib.hid (L_123.out.same (SameIn.below bw16 (by omega)))
    clear L_123
    have BL_131 := Lib.hid (BL_124.out.trans (bw16.mono (by omega)))
    clear BL_124
    clear hq bw16
    go_wp2_with fail
    refine (markIntSS_big _ _ _ g 1 _ L_129.out (by omega) (by omega) hgn HGL.out).mono ?_
    rintro e w17 ⟨rfl, ow17, cw17, zw17⟩
    have sw17 : w16.heap.size ≤ w17.heap.size := cw17.size
    clear zw17
    have L_132 := Lib.hid (L_125.out.same (cw17.sameIn (by omega) (by omega)))
    clear L_125
    have L_133 := Lib.hid (L_126.out.same (cw17.sameIn (by omega) (by omega)))
    clear L_126
    have L_134 := Lib.hid (L_127.out.same (cw17.sameIn (by omega) (by omega)))
    clear L_127
    have L_135 := Lib.hid (L_128.out.same (cw17.sameIn (by omega) (by omega)))
    clear L_128
    have L_136 := Lib.hid (L_130.out.same (cw17.sameIn (by omega) (by omega)))
    clear L_130
    have BL_137 := Lib.hid (BL_131.out.trans (cw17.below (by omega) (by omega)))
    clear BL_131
    have M_138 := Lib.hid ow17
    clear ow17 cw17 L_129
    go_wp2_with fail
    refine (markIntSS_big _ _ _ h (1 + g.off g.n) _ L_136.out (by omega) (by omega) hhn HHL.out).mono ?_
    rintro e w18 ⟨rfl, ow18, cw18, zw18⟩
    have sw18 : w17.heap.size ≤ w18.heap.size := cw18.size
    clear zw18
    have L_139 := Lib.hid (L_132.out.same (cw18.sameIn (by omega) (by omega)))
    clear L_132
    have L_140 := Lib.hid (L_133.out.same (cw18.sameIn (by omega) (by omega)))
    clear L_133
    have L_141 := Lib.hid (L_134.out.same (cw18.sameIn (by omega) (by omega)))
    clear L_134
    have L_142 := Lib.hid (L_135.out.same (cw18.sameIn (by omega) (by omega)))
    clear L_135
    have L_143 := Lib.hid (M_138.out.same (cw18.sameIn (by omega) (by omega)))
    clear M_138
    have BL_144 := Lib.hid (BL_137.out.trans (cw18.below (by omega) (by omega)))
    clear BL_137
    have M_145 := Lib.hid ow18
    clear ow18 cw18 L_136
    go_wp2_with fail
    refine (heldMark_k _ _ _ g 1 _ L_143.out (by omega) (by omega) hgn HGL.out).mono ?_
    rintro e w' ⟨rfl, rfl⟩
    go_wp2_with fail
    refine (heldMark_k _ _ _ h (1 + g.off g.n) _ M_145.out (by omega) (by omega) hhn HHL.out).mono ?_
    rintro e w' ⟨rfl, rfl⟩
    go_wp2_with fail
    refine (toIntSS_any v0 0 w.heap.size g0 _ L_139.out n0 HL0.out (by omega)).mono ?_
    rintro e w19 ⟨rfl, ow19, bw19⟩
    have sw19 : w18.heap.size ≤ w19.heap.size := bw19.size
    have L_146 := Lib.hid (L_139.out.same (SameIn.below bw19 (by omega)))
    clear L_139
    have L_147 := Lib.hid (L_140.out.same (SameIn.below bw19 (by omega)))
    clear L_140
    have L_148 := Lib.hid (L_141.out.same (SameIn.below bw19 (by omega)))
    clear L_141
    have L_149 := Lib.hid (L_142.out.same (SameIn.below bw19 (by omega)))
    clear L_142
    have L_150 := Lib.hid (L_143.out.same (SameIn.below bw19 (by omega)))
    clear L_143
    have L_151 := Lib.hid (M_145.out.same (SameIn.below bw19 (by omega)))
    clear M_145
    have O_152 := Lib.hid ow19
    have BL_153 := Lib.hid (BL_144.out.trans (bw19.mono (by omega)))
    clear BL_144
    clear ow19 bw19
    go_wp2_with fail
    refine (toIntSS_any v1 0 w.heap.size g1 _ L_147.out n1 HL1.out (by omega)).mono ?_
    rintro e w20 ⟨rfl, ow20, bw20⟩
    have sw20 : w19.heap.size ≤ w20.heap.size := bw20.size
    have L_154 := Lib.hid (L_146.out.same (SameIn.below bw20 (by omega)))
    clear L_146
    have L_155 := Lib.hid (L_147.out.same (SameIn.below bw20 (by omega)))
    clear L_147
    have L_156 := Lib.hid (L_148.out.same (SameIn.below bw20 (by omega)))
    clear L_148
    have L_157 := Lib.hid (L_149.out.same (SameIn.below bw20 (by omega)))
    clear L_149
    have L_158 := Lib.hid (L_150.out.same (SameIn.below bw20 (by omega)))
    clear L_150
    have L_159 := Lib.hid (L_151.out.same (SameIn.below bw20 (by omega)))
    clear L_151
    have L_160 := Lib.hid (O_152.out.same (SameIn.below bw20 (by omega)))
    clear O_152
    have O_161 := Lib.hid ow20
    have BL_162 := Lib.hid (BL_153.out.trans (bw20.mono (by omega)))
    clear BL_153
    clear ow20 bw20
    go_wp2_with fail
    refine (HIM.out _ _ _ 0 w20.heap.size (L_160.out.rd.mono (Nat.zero_le _) (by omega)) (O_161.out.rd.mono (Nat.zero_le _) (by omega)) (Nat.le_refl _)).mono ?_
    rintro e w21 ⟨r_163, t_164, m_165, rfl, ⟨_, _, _, rfl⟩, ⟨_, _, _, rfl⟩, h1w21, h2w21, ow21, pw21, bw21⟩
    have sw21 : w20.heap.size ≤ w21.heap.size := bw21.size
    have L_166 := Lib.hid (L_154.out.same (SameIn.below bw21 (by omega)))
    clear L_154
    have L_167 := Lib.hid (L_155.out.same (SameIn.below bw21 (by omega)))
    clear L_155
    have L_168 := Lib.hid (L_156.out.same (SameIn.below bw21 (by omega)))
    clear L_156
    have L_169 := Lib.hid (L_157.out.same (SameIn.below bw21 (by omega)))
    clear L_157
    have L_170 := Lib.hid (L_158.out.same (SameIn.below bw21 (by omega)))
    clear L_158
    have L_171 := Lib.hid (L_159.out.same (SameIn.below bw21 (by omega)))
    clear L_159
    have L_172 := Lib.hid (L_160.out.same (SameIn.below bw21 (by omega)))
    clear L_160
    have L_173 := Lib.hid (O_161.out.same (SameIn.below bw21 (by omega)))
    clear O_161
    have O_174 := Lib.hid ow21
    have O_175 := Lib.hid pw21
    have BL_176 := Lib.hid (BL_162.out.trans (bw21.mono (by omega)))
    clear BL_162
    clear ow21 pw21 bw21
    go_wp2_with fail
    refine (eqIntSS_any _ _ _ _ _ _ g _ O_174.out.rd L_168.out).mono ?_
    intro e w22 hq
    obtain ⟨rfl, bw22⟩ := hq.below
    have sw22 : w21.heap.size ≤ w22.heap.size := bw22.size
    have L_177 := Lib.hid (L_166.out.same (SameIn.below bw22 (by omega)))
    clear L_166
    have L_178 := Lib.hid (L_167.out.same (SameIn.below bw22 (by omega)))
    clear L_167
    have L_179 := Lib.hid (L_168.out.same (SameIn.below bw22 (by omega)))
    clear L_168
    have L_180 := Lib.hid (L_169.out.same (SameIn.below bw22 (by omega)))
    clear L_169
    have L_181 := Lib.hid (L_170.out.same (SameIn.below bw22 (by omega)))
    clear L_170
    have L_182 := Lib.hid (L_171.out.same (SameIn.below bw22 (by omega)))
    clear L_171
    have L_183 := Lib.hid (L_172.out.same (SameIn.below bw22 (by omega)))
    clear L_172
    have L_184 := Lib.hid (L_173.out.same (SameIn.below bw22 (by omega)))
    clear L_173
    have L_185 := Lib.hid (O_174.out.same (SameIn.below bw22 (by omega)))
    clear O_174
    have L_186 := Lib.hid (O_175.out.same (SameIn.below bw22 (by omega)))
    clear O_175
    have BL_187 := Lib.hid (BL_176.out.trans (bw22.mono (by omega)))
    clear BL_176
    clear hq bw22
    go_wp2_with fail
    refine (eqIntSS_any _ _ _ _ _ _ h _ L_186.out.rd L_180.out).mono ?_
    intro e w23 hq
    obtain ⟨rfl, bw23⟩ := hq.below
    have sw23 : w22.heap.size ≤ w23.heap.size := bw23.size
    have L_188 := Lib.hid (L_177.out.same (SameIn.below bw23 (by omega)))
    clear L_177
    have L_189 := Lib.hid (L_178.out.same (SameIn.below bw23 (by omega)))
    clear L_178
    have L_190 := Lib.hid (L_179.out.same (SameIn.below bw23 (by omega)))
    clear L_179
    have L_191 := Lib.hid (L_180.out.same (SameIn.below bw23 (by omega)))
    clear L_180
    have L_192 := Lib.hid (L_181.out.same (SameIn.below bw23 (by omega)))
    clear L_181
    have L_193 := Lib.hid (L_182.out.same (SameIn.below bw23 (by omega)))
    clear L_182
    have L_194 := Lib.hid (L_183.out.same (SameIn.below bw23 (by omega)))
    clear L_183
    have L_195 := Lib.hid (L_184.out.same (SameIn.below bw23 (by omega)))
    clear L_184
    have L_196 := Lib.hid (L_185.out.same (SameIn.below bw23 (by omega)))
    clear L_185
    have L_197 := Lib.hid (L_186.out.same (SameIn.below bw23 (by omega)))
    clear L_186
    have BL_198 := Lib.hid (BL_187.out.trans (bw23.mono (by omega)))
    clear BL_187
    clear hq bw23
    go_wp2_with fail
    refine (heldMark_k _ _ _ g 1 _ L_192.out (by omega) (by omega) hgn HGL.out).mono ?_
    rintro e w' ⟨rfl, rfl⟩
    go_wp2_with fail
    refine (heldMark_k _ _ _ h (1 + g.off g.n) _ L_193.out (by omega) (by omega) hhn HHL.out).mono ?_
    rintro e w' ⟨rfl, rfl⟩
    go_wp2
    go_ret
    exact ⟨rfl, BL_198.out⟩

end Go.Proofs.Ytbjhaggncpkdhaa
