/- The law FnLabelsDrop of the promises: its walk. -/
import Derived.Test.YthelaffjpmcdbaaSwG
import Derived.Test.YthelaffjpmcdbaaDrawLd
namespace Go.Proofs.Ythelaffjpmcdbaa
open Go.RowKit
set_option linter.unusedVariables false
set_option linter.unusedSimpArgs false

set_option maxHeartbeats 4000000 in
set_option maxRecDepth 100000 in
theorem law_FnLabelsDrop (v : Value) (n : Nat) (w : World) (hv : RdB w.heap.size w v n) : Calls Try.prog 8 #[v] w (LawPost w) := by
  have HD := Lib.hid (draw_DrawLabelsDrop v n w.heap.size w hv (Nat.le_refl _))
  obtain ⟨ao, cap, cb, off, Z, rfl, hc1, hc2, _⟩ := hv
  by_cases hn : 1048576 < n
  · have hn' : (1048576 : Int) < n := by omega
    go_enter Try.func8, Try.ntmps8
    go_wp2
    go_ret
    exact ⟨rfl, Below.refl _ _⟩
  · have hn' : ¬ (1048576 : Int) < n := by omega
    go_enter Try.func8, Try.ntmps8
    go_wp2_with fail
    refine HD.out.mono ?_
    rintro e w1 ⟨b, cp, n0, Z0, k0, rfl, hm, hn7, hz7, hk0, bw1⟩
    have R_p := Lib.hid hm
    clear hm HD
    have sw1 : w.heap.size ≤ w1.heap.size := bw1.size
    have BL := Lib.hid bw1
    clear bw1
    by_cases hok : DpLs n0 Z0 k0
    case neg =>
      go_wp2_with fail
      refine (implLabelsDrop_no _ 0 w1.heap.size n0 Z0 k0 _ (R_p.out.mono (Nat.zero_le _) (by omega)) (Nat.le_refl _) (by omega) hok).mono ?_
      rintro e w2 ⟨_, rfl, ⟨_, _, _, rfl⟩, ow2, bw2⟩
      have Nw2 := Lib.hid (ow2.rd)
      clear ow2
      have sw2 : w1.heap.size ≤ w2.heap.size := bw2.size
      have L_1 := Lib.hid (R_p.out.same (SameIn.below bw2 (by omega)))
      clear R_p
      have BL_2 := Lib.hid (BL.out.trans (bw2.mono (by omega)))
      clear BL bw2
      go_wp2_with fail
      refine (specLabelsDrop_no _ 0 w2.heap.size n0 Z0 k0 _ (L_1.out.mono (Nat.zero_le _) (by omega)) (Nat.le_refl _) (by omega) hok).mono ?_
      rintro e w3 ⟨_, rfl, ⟨_, _, _, rfl⟩, ow3, bw3⟩
      have Nw3 := Lib.hid (ow3)
      clear ow3
      have sw3 : w2.heap.size ≤ w3.heap.size := bw3.size
      have L_3 := Lib.hid (L_1.out.same (SameIn.below bw3 (by omega)))
      clear L_1
      have L_4 := Lib.hid (Nw2.out.same (SameIn.below bw3 (by omega)))
      clear Nw2
      have BL_5 := Lib.hid (BL_2.out.trans (bw3.mono (by omega)))
      clear BL_2 bw3
      go_wp2_with fail
      refine (sameLabels_any _ _ _ _ _ _ 0 _ _ _ L_4.out Nw3.out (fun _ _ => rfl) (by omega)).mono ?_
      intro e w4 hq
      obtain ⟨rfl, bw4⟩ := hq.below
      clear hq
      have sw4 : w3.heap.size ≤ w4.heap.size := bw4.size
      have L_6 := Lib.hid (L_3.out.same (SameIn.below bw4 (by omega)))
      clear L_3
      have L_7 := Lib.hid (L_4.out.same (SameIn.below bw4 (by omega)))
      clear L_4
      have L_8 := Lib.hid (Nw3.out.same (SameIn.below bw4 (by omega)))
      clear Nw3
      have BL_9 := Lib.hid (BL_5.out.trans (bw4.mono (by omega)))
      clear BL_5 bw4
      go_wp2_with fail
      refine (sameLabels_any _ _ _ _ _ _ 0 _ _ _ L_7.out L_8.out (fun _ _ => rfl) (by omega)).mono ?_
      intro e w5 hq
      obtain ⟨rfl, bw5⟩ := hq.below
      clear hq
      have sw5 : w4.heap.size ≤ w5.heap.size := bw5.size
      have L_10 := Lib.hid (L_6.out.same (SameIn.below bw5 (by omega)))
      clear L_6
      have L_11 := Lib.hid (L_7.out.same (SameIn.below bw5 (by omega)))
      clear L_7
      have L_12 := Lib.hid (L_8.out.same (SameIn.below bw5 (by omega)))
      clear L_8
      have BL_13 := Lib.hid (BL_9.out.trans (bw5.mono (by omega)))
      clear BL_9 bw5
      go_wp2
      go_ret
      exact ⟨rfl, BL_13.out⟩
    case pos =>
      obtain ⟨hls, hk1, hk2⟩ := hok
      obtain ⟨k, rfl⟩ : ∃ k : Nat, k0 = k := ⟨k0.toNat, by omega⟩
      have hkn0 : k < n0 := by omega
      have hn6 := hls.1
      obtain ⟨hbo, _⟩ := bsG_best hls
      have hdo := dz_set (k := k) hbo
      obtain ⟨m, em⟩ : ∃ m, n0 - 1 = m := ⟨_, rfl⟩
      have hm1 : m + 1 = n0 := by omega
      have HI := Lib.hid (fun (W : World) (hi' : Nat) (v : Value) (h : RdT 0 hi' W v n0 Z0) (hh : hi' ≤ W.heap.size) => implLabelsDrop_yes v 0 hi' n0 Z0 k W h hh hls hkn0)
      have HS := Lib.hid (fun (W : World) (hi' : Nat) (v : Value) (h : RdT 0 hi' W v n0 Z0) (hh : hi' ≤ W.heap.size) => specLabelsDrop_yes v 0 hi' n0 Z0 k W h hh hls hkn0)
      have HBE := Lib.hid (fun (W : World) (hi' : Nat) (v : Value) (h : RdT 0 hi' W v n0 Z0) (hh : hi' ≤ W.heap.size) => implBest_yes v hi' n0 Z0 W h hh hls)
      have HSV := Lib.hid (fun (W : World) (hi' : Nat) (v v2 : Value) (lo2 hi2 : Nat) (h : RdT 0 hi' W v (n0 - 1) (dzF Z0 k)) (hh : hi' ≤ W.heap.size) (h2 : RdI lo2 hi2 W v2 (n0 - 1) (dqF (bsG n0 Z0) k)) (hh2 : hi2 ≤ W.heap.size) => implSv_yes v hi' (n0 - 1) (dzF Z0 k) v2 lo2 hi2 _ W h hh hdo h2 hh2)
      have HO1 := Lib.hid (fun (W : World) (hi' : Nat) (v : Value) (h : RdT 0 hi' W v n0 Z0) (hh : hi' ≤ W.heap.size) => implMost_yes v hi' n0 Z0 W h hh hls)
      have HO2 := Lib.hid (fun (W : World) (hi' : Nat) (v : Value) (h : RdT 0 hi' W v (n0 - 1) (dzF Z0 k)) (hh : hi' ≤ W.heap.size) => implMost_yes v hi' (n0 - 1) (dzF Z0 k) W h hh hdo.1)
      have hmo := dz_most hls hkn0
      have hsm := bst_small hls
      have hbr := st_range hbo
      obtain ⟨O, eO⟩ : ∃ T, bst Z0 false n0 0 (mpK Z0 n0) = T := ⟨_, rfl⟩
      obtain ⟨A, eA⟩ : ∃ T, bst (dzF Z0 k) false (n0 - 1) 0 (mpK (dzF Z0 k) (n0 - 1)) = T := ⟨_, rfl⟩
      rw [eO] at hmo hsm
      rw [eA] at hmo
      simp only [eO, eA] at HO1 HO2
      obtain ⟨sd, esd⟩ : ∃ f, bsG n0 Z0 = f := ⟨_, rfl⟩
      simp only [esd] at HBE HSV hbr
      have HDQ := Lib.hid (dq_cat sd n0 k hkn0)
      have HBR := Lib.hid hbr
      rw [em] at HDQ
      simp only [em] at HI HS HSV HO2
      have hwO : IntKind.i64.wrap (O - 1) = O - 1 := IntWalk.i64_in _ (by omega)
      have hwn : IntKind.i64.wrap ((n0 : Int) - 1) = (m : Int) := by rw [IntWalk.i64_in _ (by omega)]; omega
      have hge : A ≥ O - 1 := hmo
      have hk' : (k : Int) < n0 := by omega
      have hkm : (k : Int) ≤ n0 := by omega
      have hkm1 : (k : Int) + 1 ≤ n0 := by omega
      have hk0' : ¬ ((k : Int) < 0) := by omega
      have hk00 : (0 : Int) ≤ k := by omega
      have hk01 : (0 : Int) ≤ (k : Int) + 1 := by omega
      have hwk : IntKind.i64.wrap ((k : Int) + 1) = (k : Int) + 1 := IntWalk.i64_in _ (by omega)
      have hkn : ((k : Int) + 1).toNat = k + 1 := by omega
      obtain ⟨i0', hi00, hz00, hz10, hz20⟩ := info_parts Try.infoI
      clear hls hbo hdo hmo hsm hbr eO eA esd em hk1 hk2 hk0
      go_wp2_with fail
      refine (HI.out _ w1.heap.size _ (R_p.out.mono (Nat.zero_le _) (by omega)) (Nat.le_refl _)).mono ?_
      rintro e w2 ⟨vo, rfl, _, ow2, bw2⟩
      have Nw2 := Lib.hid (ow2.rd)
      clear ow2
      have sw2 : w1.heap.size ≤ w2.heap.size := bw2.size
      have L_1 := Lib.hid (R_p.out.same (SameIn.below bw2 (by omega)))
      clear R_p
      have BL_2 := Lib.hid (BL.out.trans (bw2.mono (by omega)))
      clear BL bw2
      obtain ⟨ao2, co2, rfl⟩ := Nw2.out.shape
      go_wp2_with fail
      refine (HS.out _ w2.heap.size _ (L_1.out.mono (Nat.zero_le _) (by omega)) (Nat.le_refl _)).mono ?_
      rintro e w3 ⟨_, rfl, ⟨_, _, _, rfl⟩, ow3, bw3⟩
      have Nw3 := Lib.hid (ow3)
      clear ow3
      have sw3 : w2.heap.size ≤ w3.heap.size := bw3.size
      have L_3 := Lib.hid (L_1.out.same (SameIn.below bw3 (by omega)))
      clear L_1
      have L_4 := Lib.hid (Nw2.out.same (SameIn.below bw3 (by omega)))
      clear Nw2
      have BL_5 := Lib.hid (BL_2.out.trans (bw3.mono (by omega)))
      clear BL_2 bw3
      go_wp2_with fail
      refine (sameLabels_any _ _ _ _ _ _ m _ _ _ L_4.out Nw3.out (fun _ _ => rfl) (by omega)).mono ?_
      intro e w4 hq
      obtain ⟨rfl, bw4⟩ := hq.below
      clear hq
      have sw4 : w3.heap.size ≤ w4.heap.size := bw4.size
      have L_6 := Lib.hid (L_3.out.same (SameIn.below bw4 (by omega)))
      clear L_3
      have L_7 := Lib.hid (L_4.out.same (SameIn.below bw4 (by omega)))
      clear L_4
      have L_8 := Lib.hid (Nw3.out.same (SameIn.below bw4 (by omega)))
      clear Nw3
      have BL_9 := Lib.hid (BL_5.out.trans (bw4.mono (by omega)))
      clear BL_5 bw4
      go_wp2_with fail
      refine (HBE.out _ w4.heap.size _ (L_6.out.mono (Nat.zero_le _) (by omega)) (Nat.le_refl _)).mono ?_
      rintro e w5 ⟨vb, rfl, _, ow5, bw5⟩
      have Nw5 := Lib.hid (ow5.rd)
      clear ow5
      have sw5 : w4.heap.size ≤ w5.heap.size := bw5.size
      have L_10 := Lib.hid (L_6.out.same (SameIn.below bw5 (by omega)))
      clear L_6
      have L_11 := Lib.hid (L_7.out.same (SameIn.below bw5 (by omega)))
      clear L_7
      have BL_12 := Lib.hid (BL_9.out.trans (bw5.mono (by omega)))
      clear BL_9 bw5
      obtain ⟨bb, off, cap, rfl, hnc, hlo, hhi, hce⟩ := Nw5.out.open (by omega)
      have H6 := Lib.hid (fun (W : World) (hb : Below w5.heap.size w5 W) (j : Nat) (hj : j < n0) => (hb.cell (p := ⟨bb, off + j, none⟩) (by show bb < _; omega)).trans (hce j hj))
      have hkc : (k : Int) ≤ cap := by omega
      have hmc : (n0 : Int) ≤ cap := by omega
      clear hce Nw5
      by_cases hck : cap = k + 1
      case pos =>
        have hkc2 : (k : Int) ≤ (k : Int) + 1 := by omega
        have hkc3 : (k : Int) ≤ ((k + 1 : Nat) : Int) := by omega
        have hnk3 : n0 = k + 1 := by omega
        have hmk : m = k := by omega
        subst hmk
        subst hnk3
        subst hck
        have s00 : w5.heap.size ≤ w5.drew.heap.size := Nat.le_refl _
        have HBW := Lib.hid (show Below w5.heap.size w5 (w5.alloc (.cells #[] 3)).drew from below_drewN ((Below.refl _ _).alloc (Nat.le_refl _) _) 1)
        have HL0 := Lib.hid (show ((w5.alloc (.cells #[] 3)).drew).ownsRow w5.heap.size 3 1 (.slice (some ⟨w5.heap.size, 0, none⟩) 0 0) 0 [] from nums_lit w5)
        have HN1 := Lib.hid (ld_news (W := (w5.alloc (.cells #[] 3)).drew) (b := bb) (off := off) (n := m) (F := sd) (fun j hj => H6.out _ HBW.out j (by omega)))
        have HN2 := Lib.hid (fun (W : World) (hb : Below w5.heap.size w5 W) => ld_news (W := W) (b := bb) (off := off) (n := 0) (F := fun j => sd (m + 1 + j)) (fun j hj => by omega))
        have hz0 : m + 1 - (m + 1) = 0 := by omega
        rw [hz0] at HDQ
        go_wp2_with fail
        go_region_held3 (fun w' => w5.heap.size ≤ w'.heap.size) (first | go_keep | exact s00 | exact s01.out | exact s02.out | (simp; omega))
          (first
            | (refine st_append_any (by rfl) _ _ _ (by rfl) w5.heap.size 3 i0' _ 1 8 Try.underlying26 hi00 hz00 hz10 hz20 rfl (by omega) v1' m (nsV (fnL sd m)) (by rfl) HO1x.out ⟨bb, off, none⟩ 0 _ (nsV (fnL (fun j => sd (m + 1 + j)) 0)) (by rfl) (cp_len1 _ _) (HN2.out _ HB2x.out) (ld_one _ _) (by unfold maxLen; omega) (by omega) s01.out ?_; intro v2' w41 hown3 hg3 _; have HO2x := Lib.hid hown3; have HB3x := Lib.hid (HB2x.out.grown hg3 HB2x.out.size (fun q hq => by have := (HO1x.out.lt q hq).1; omega)); have s02 := Lib.hid (Nat.le_trans s01.out hg3.size); clear hown3 hg3)
            | (refine st_append_any (by rfl) _ _ _ (by rfl) w5.heap.size 3 i0' _ 1 8 Try.underlying26 hi00 hz00 hz10 hz20 rfl (by omega) (.slice (some ⟨w5.heap.size, 0, none⟩) 0 0) 0 [] (by rfl) HL0.out ⟨bb, off, none⟩ m _ (nsV (fnL sd m)) (by rfl) (cp_len1 _ _) HN1.out (ld_one _ _) (by unfold maxLen; omega) (by omega) HBW.out.size ?_; intro v1' w40 hown2 hg2 _; have HO1x := Lib.hid (show w40.ownsRow w5.heap.size 3 1 v1' m (nsV (fnL sd m)) by simpa using hown2); have HB2x := Lib.hid (HBW.out.grown hg2 (by have := HBW.out.size; omega) (fun q hq => by have := (HL0.out.lt q hq).1; omega)); have s01 := Lib.hid (Nat.le_trans HBW.out.size hg2.size); clear hown2 hg2))
        have hcat := HO2x.out
        rw [HDQ.out] at hcat
        have NX := Lib.hid ((own_nums (show Nums w5.heap.size w41 v2' (fnL (dqF sd m) m) from by
          unfold Nums
          rw [fnL_len]
          exact hcat) (fun i hi => by
            unfold dqF
            split
            · have := HBR.out i (by omega); omega
            · have := HBR.out (i + 1) (by omega); omega)).rd)
        clear hcat HDQ H6 HL0 HN1 HN2
        have sX : w5.heap.size ≤ w41.heap.size := HB3x.out.size
        have RO := Lib.hid (L_11.out.same (SameIn.below HB3x.out (by omega)))
        have RP := Lib.hid (L_10.out.same (SameIn.below HB3x.out (by omega)))
        have BLX := Lib.hid (BL_12.out.trans (HB3x.out.mono (by omega)))
        clear HB3x HB2x HBW HO1x HO2x L_11 L_10 BL_12
        go_wp2_with fail
        refine (HSV.out _ w41.heap.size _ _ 0 w41.heap.size (RO.out.mono (Nat.zero_le _) (by omega)) (Nat.le_refl _) (NX.out.mono (Nat.zero_le _) (by omega)) (Nat.le_refl _)).mono ?_
        rintro e w6 ⟨rfl, bw6⟩
        have sw6 : w41.heap.size ≤ w6.heap.size := bw6.size
        have L_13 := Lib.hid (RO.out.same (SameIn.below bw6 (by omega)))
        clear RO
        have L_14 := Lib.hid (RP.out.same (SameIn.below bw6 (by omega)))
        clear RP
        have L_15 := Lib.hid (NX.out.same (SameIn.below bw6 (by omega)))
        clear NX
        have BL_16 := Lib.hid (BLX.out.trans (bw6.mono (by omega)))
        clear BLX bw6
        go_wp2_with fail
        refine (HO2.out _ w6.heap.size _ (L_13.out.mono (Nat.zero_le _) (by omega)) (Nat.le_refl _)).mono ?_
        rintro e w7 ⟨rfl, bw7⟩
        have sw7 : w6.heap.size ≤ w7.heap.size := bw7.size
        have L_17 := Lib.hid (L_13.out.same (SameIn.below bw7 (by omega)))
        clear L_13
        have L_18 := Lib.hid (L_14.out.same (SameIn.below bw7 (by omega)))
        clear L_14
        have BL_19 := Lib.hid (BL_16.out.trans (bw7.mono (by omega)))
        clear BL_16 bw7
        go_wp2_with fail
        refine (HO1.out _ w7.heap.size _ (L_18.out.mono (Nat.zero_le _) (by omega)) (Nat.le_refl _)).mono ?_
        rintro e w8 ⟨rfl, bw8⟩
        have sw8 : w7.heap.size ≤ w8.heap.size := bw8.size
        have L_20 := Lib.hid (L_17.out.same (SameIn.below bw8 (by omega)))
        clear L_17
        have L_21 := Lib.hid (L_18.out.same (SameIn.below bw8 (by omega)))
        clear L_18
        have BL_22 := Lib.hid (BL_19.out.trans (bw8.mono (by omega)))
        clear BL_19 bw8
        go_wp2
        go_ret
        exact ⟨rfl, BL_22.out⟩
  
      case neg =>
        have hkcc : (k : Int) + 1 ≤ cap := by omega
        have s00 : w5.heap.size ≤ w5.drew.heap.size := Nat.le_refl _
        have HBW := Lib.hid (show Below w5.heap.size w5 (w5.alloc (.cells #[] 3)).drew from below_drewN ((Below.refl _ _).alloc (Nat.le_refl _) _) 1)
        have HL0 := Lib.hid (show ((w5.alloc (.cells #[] 3)).drew).ownsRow w5.heap.size 3 1 (.slice (some ⟨w5.heap.size, 0, none⟩) 0 0) 0 [] from nums_lit w5)
        have HN1 := Lib.hid (ld_news (W := (w5.alloc (.cells #[] 3)).drew) (b := bb) (off := off) (n := k) (F := sd) (fun j hj => H6.out _ HBW.out j (by omega)))
        have HN2 := Lib.hid (fun (W : World) (hb : Below w5.heap.size w5 W) => ld_news (W := W) (b := bb) (off := off + (k + 1)) (n := (n0 - (k + 1))) (F := fun j => sd (k + 1 + j)) (fun j hj => by
          have := H6.out W hb (k + 1 + j) (by omega); rwa [← Nat.add_assoc] at this))
        go_wp2_with fail
        go_region_held3 (fun w' => w5.heap.size ≤ w'.heap.size) (first | go_keep | exact s00 | exact s01.out | exact s02.out | (simp; omega))
          (first
            | (refine st_append_any (by rfl) _ _ _ (by rfl) w5.heap.size 3 i0' _ 1 8 Try.underlying26 hi00 hz00 hz10 hz20 rfl (by omega) v1' k (nsV (fnL sd k)) (by rfl) HO1x.out ⟨bb, off + (k + 1), none⟩ (n0 - (k + 1)) _ (nsV (fnL (fun j => sd (k + 1 + j)) (n0 - (k + 1)))) (by rfl) (cp_len1 _ _) (HN2.out _ HB2x.out) (ld_one _ _) (by unfold maxLen; omega) (by omega) s01.out ?_; intro v2' w41 hown3 hg3 _; have HO2x := Lib.hid hown3; have HB3x := Lib.hid (HB2x.out.grown hg3 HB2x.out.size (fun q hq => by have := (HO1x.out.lt q hq).1; omega)); have s02 := Lib.hid (Nat.le_trans s01.out hg3.size); clear hown3 hg3)
            | (refine st_append_any (by rfl) _ _ _ (by rfl) w5.heap.size 3 i0' _ 1 8 Try.underlying26 hi00 hz00 hz10 hz20 rfl (by omega) (.slice (some ⟨w5.heap.size, 0, none⟩) 0 0) 0 [] (by rfl) HL0.out ⟨bb, off, none⟩ k _ (nsV (fnL sd k)) (by rfl) (cp_len1 _ _) HN1.out (ld_one _ _) (by unfold maxLen; omega) (by omega) HBW.out.size ?_; intro v1' w40 hown2 hg2 _; have HO1x := Lib.hid (show w40.ownsRow w5.heap.size 3 1 v1' k (nsV (fnL sd k)) by simpa using hown2); have HB2x := Lib.hid (HBW.out.grown hg2 (by have := HBW.out.size; omega) (fun q hq => by have := (HL0.out.lt q hq).1; omega)); have s01 := Lib.hid (Nat.le_trans HBW.out.size hg2.size); clear hown2 hg2))
        have hcat := HO2x.out
        rw [HDQ.out] at hcat
        have NX := Lib.hid ((own_nums (show Nums w5.heap.size w41 v2' (fnL (dqF sd k) m) from by
          unfold Nums
          rw [fnL_len]
          rw [show k + (n0 - (k + 1)) = m by omega] at hcat
          exact hcat) (fun i hi => by
            unfold dqF
            split
            · have := HBR.out i (by omega); omega
            · have := HBR.out (i + 1) (by omega); omega)).rd)
        clear hcat HDQ H6 HL0 HN1 HN2
        have sX : w5.heap.size ≤ w41.heap.size := HB3x.out.size
        have RO := Lib.hid (L_11.out.same (SameIn.below HB3x.out (by omega)))
        have RP := Lib.hid (L_10.out.same (SameIn.below HB3x.out (by omega)))
        have BLX := Lib.hid (BL_12.out.trans (HB3x.out.mono (by omega)))
        clear HB3x HB2x HBW HO1x HO2x L_11 L_10 BL_12
        go_wp2_with fail
        refine (HSV.out _ w41.heap.size _ _ 0 w41.heap.size (RO.out.mono (Nat.zero_le _) (by omega)) (Nat.le_refl _) (NX.out.mono (Nat.zero_le _) (by omega)) (Nat.le_refl _)).mono ?_
        rintro e w6 ⟨rfl, bw6⟩
        have sw6 : w41.heap.size ≤ w6.heap.size := bw6.size
        have L_13 := Lib.hid (RO.out.same (SameIn.below bw6 (by omega)))
        clear RO
        have L_14 := Lib.hid (RP.out.same (SameIn.below bw6 (by omega)))
        clear RP
        have L_15 := Lib.hid (NX.out.same (SameIn.below bw6 (by omega)))
        clear NX
        have BL_16 := Lib.hid (BLX.out.trans (bw6.mono (by omega)))
        clear BLX bw6
        go_wp2_with fail
        refine (HO2.out _ w6.heap.size _ (L_13.out.mono (Nat.zero_le _) (by omega)) (Nat.le_refl _)).mono ?_
        rintro e w7 ⟨rfl, bw7⟩
        have sw7 : w6.heap.size ≤ w7.heap.size := bw7.size
        have L_17 := Lib.hid (L_13.out.same (SameIn.below bw7 (by omega)))
        clear L_13
        have L_18 := Lib.hid (L_14.out.same (SameIn.below bw7 (by omega)))
        clear L_14
        have BL_19 := Lib.hid (BL_16.out.trans (bw7.mono (by omega)))
        clear BL_16 bw7
        go_wp2_with fail
        refine (HO1.out _ w7.heap.size _ (L_18.out.mono (Nat.zero_le _) (by omega)) (Nat.le_refl _)).mono ?_
        rintro e w8 ⟨rfl, bw8⟩
        have sw8 : w7.heap.size ≤ w8.heap.size := bw8.size
        have L_20 := Lib.hid (L_17.out.same (SameIn.below bw8 (by omega)))
        clear L_17
        have L_21 := Lib.hid (L_18.out.same (SameIn.below bw8 (by omega)))
        clear L_18
        have BL_22 := Lib.hid (BL_19.out.trans (bw8.mono (by omega)))
        clear BL_19 bw8
        go_wp2
        go_ret
        exact ⟨rfl, BL_22.out⟩
end Go.Proofs.Ythelaffjpmcdbaa
