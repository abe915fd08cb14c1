/- The law FnSinks of the promises: its walk. -/
import Derived.Test.YtmhcpjekpkdaeaaPNear
import Derived.Test.YtmhcpjekpkdaeaaSame
namespace Go.Proofs.Ytmhcpjekpkdaeaa
open Go.RowKit
set_option linter.unusedVariables false

set_option maxHeartbeats 20000000 in
set_option maxRecDepth 100000 in
theorem law_FnSinks (v : Value) (n : Nat) (w : World) (hv : RdB w.heap.size w v n) : Calls Try.prog 5 #[v] w (LawPost w) := by
  have HD := Lib.hid (draw_DrawWaterSinks v n w.heap.size w hv (Nat.le_refl _))
  obtain ⟨ao, cap, cb, off, Z, rfl, hc1, hc2, _⟩ := hv
  by_cases hn : 1048576 < n
  · have hn' : (1048576 : Int) < n := by omega
    go_enter Try.func5, Try.ntmps5
    go_wp2
    go_ret
    exact ⟨rfl, Below.refl _ _⟩
  · have hn' : ¬ (1048576 : Int) < n := by omega
    go_enter Try.func5, Try.ntmps5
    go_wp2_with fail
    refine HD.out.mono ?_
    rintro e w1 ⟨vg, g, rfl, _, hm, hgn, hgl, bw1⟩
    obtain ⟨bg, og, cg, rfl⟩ := hm.shape (by omega)
    have R_g := Lib.hid hm
    have HGL := Lib.hid hgl
    obtain ⟨hgn1, hgn5⟩ := hgn
    clear hm hgl HD
    have sw1 : w.heap.size ≤ w1.heap.size := bw1.size
    have BL := Lib.hid bw1
    clear bw1
    have hM : g.n * g.len 0 ≤ 49 := by
      have h1 := HGL.out 0 (by omega)
      have h2 : g.n * g.len 0 ≤ 5 * 9 := Nat.mul_le_mul hgn5 h1
      omega
    by_cases hval : g.Valid
    case neg =>
      have HE := Lib.hid (G.skV_no hval)
      clear hval
      go_wp2_with fail
      refine (implWaterSinks_any _ 0 w1.heap.size g _ (R_g.out.mono (Nat.zero_le _) (by omega)) (Nat.le_refl _)).mono ?_
      rintro e w2 ⟨v_o, rfl, hl_o, bw2⟩
      rw [HE.out] at hl_o
      obtain ⟨a_o, c_o, rfl⟩ := hl_o.shape
      have Nw2 := Lib.hid (hl_o.rdI hM)
      clear hl_o
      have sw2 : w1.heap.size ≤ w2.heap.size := bw2.size
      have L_1 := Lib.hid (R_g.out.same (SameIn.below bw2 (by omega)))
      clear R_g
      have BL_2 := Lib.hid (BL.out.trans (bw2.mono (by omega)))
      clear BL bw2
      go_wp2_with fail
      refine (specWaterSinks_any _ 0 w2.heap.size g _ (L_1.out.mono (Nat.zero_le _) (by omega)) (Nat.le_refl _)).mono ?_
      rintro e w3 ⟨v_p, rfl, hl_p, bw3⟩
      rw [HE.out] at hl_p
      obtain ⟨a_p, c_p, rfl⟩ := hl_p.shape
      have Nw3 := Lib.hid (hl_p.rdI hM)
      clear hl_p
      have sw3 : w2.heap.size ≤ w3.heap.size := bw3.size
      have L_3 := Lib.hid (L_1.out.same (SameIn.below bw3 (by omega)))
      clear L_1
      have L_4 := Lib.hid (Nw2.out.same (SameIn.below bw3 (by omega)))
      clear Nw2
      have BL_5 := Lib.hid (BL_2.out.trans (bw3.mono (by omega)))
      clear BL_2 bw3
      simp only [List.length_nil] at *
      go_wp2_with fail
      refine (sameInts_any _ _ _ _ _ _ 0 _ _ _ L_4.out Nw3.out (fun _ _ => rfl)).mono ?_
      rintro e w4 ⟨rfl, qw4, rfl⟩
      have bw4 := below_drewN (Below.refl w3.heap.size w3) qw4
      obtain ⟨w_w4, ew_w4⟩ : ∃ w', w' = w3.drewN qw4 := ⟨_, rfl⟩
      rw [← ew_w4] at bw4 ⊢
      clear ew_w4
      have sw_w4 : w3.heap.size ≤ w_w4.heap.size := bw4.size
      have L_6 := Lib.hid (L_3.out.same (SameIn.below bw4 (by omega)))
      clear L_3
      have L_7 := Lib.hid (L_4.out.same (SameIn.below bw4 (by omega)))
      clear L_4
      have L_8 := Lib.hid (Nw3.out.same (SameIn.below bw4 (by omega)))
      clear Nw3
      have BL_9 := Lib.hid (BL_5.out.trans (bw4.mono (by omega)))
      clear BL_5 bw4
      go_wp2_with fail
      refine (sameInts_any _ _ _ _ _ _ 0 _ _ _ L_7.out L_8.out (fun _ _ => rfl)).mono ?_
      rintro e w5 ⟨rfl, qw5, rfl⟩
      have bw5 := below_drewN (Below.refl w_w4.heap.size w_w4) qw5
      obtain ⟨w_w5, ew_w5⟩ : ∃ w', w' = w_w4.drewN qw5 := ⟨_, rfl⟩
      rw [← ew_w5] at bw5 ⊢
      clear ew_w5
      have sw_w5 : w_w4.heap.size ≤ w_w5.heap.size := bw5.size
      have L_10 := Lib.hid (L_6.out.same (SameIn.below bw5 (by omega)))
      clear L_6
      have L_11 := Lib.hid (L_7.out.same (SameIn.below bw5 (by omega)))
      clear L_7
      have L_12 := Lib.hid (L_8.out.same (SameIn.below bw5 (by omega)))
      clear L_8
      have BL_13 := Lib.hid (BL_9.out.trans (bw5.mono (by omega)))
      clear BL_9 bw5
      go_wp2
      go_ret
      exact ⟨rfl, BL_13.out⟩
    case pos =>
      have HV := Lib.hid hval
      have hN : 0 < g.n * g.len 0 := Nat.mul_pos hval.1.1 hval.2.1.1
      obtain ⟨L, eL⟩ : ∃ L, skL g.n (g.len 0) g.flat (g.n * g.len 0) = L := ⟨_, rfl⟩
      have HE := Lib.hid (show g.skV = L by rw [G.skV_yes hval, eL])
      have HSH := Lib.hid (fun i : Ix (g.n * g.len 0) => show L.any (fun x => x.1 == i.1) = !((near g.n (g.len 0) i 4).any (fun x => decide (g.flat x.1 < g.flat i.1))) from eL ▸ sinkHolds i)
      have hL49 : L.length ≤ 49 := by rw [← eL]; have := skL_len g.n (g.len 0) g.flat (g.n * g.len 0); omega
      obtain ⟨lo, elo⟩ : ∃ lo, mn g.flat (g.n * g.len 0) = lo := ⟨_, rfl⟩
      have HLO := Lib.hid (fun (i : Nat) (hi : i < g.n * g.len 0) => show lo ≤ g.flat i from elo ▸ mn_le _ _ _ hi)
      have ELO := Lib.hid elo
      obtain ⟨N, eN⟩ : ∃ N, g.n * g.len 0 = N := ⟨_, rfl⟩
      have EN := Lib.hid eN
      have hN49 : N ≤ 49 := by omega
      clear hval eL elo eN
      go_wp2_with fail
      refine (implWaterSinks_any _ 0 w1.heap.size g _ (R_g.out.mono (Nat.zero_le _) (by omega)) (Nat.le_refl _)).mono ?_
      rintro e w2 ⟨v_o, rfl, hl_o, bw2⟩
      rw [HE.out] at hl_o
      obtain ⟨a_o, c_o, rfl⟩ := hl_o.shape
      have Nw2 := Lib.hid (hl_o.rdI hM)
      clear hl_o
      have sw2 : w1.heap.size ≤ w2.heap.size := bw2.size
      have L_1 := Lib.hid (R_g.out.same (SameIn.below bw2 (by omega)))
      clear R_g
      have BL_2 := Lib.hid (BL.out.trans (bw2.mono (by omega)))
      clear BL bw2
      go_wp2_with fail
      refine (specWaterSinks_any _ 0 w2.heap.size g _ (L_1.out.mono (Nat.zero_le _) (by omega)) (Nat.le_refl _)).mono ?_
      rintro e w3 ⟨v_p, rfl, hl_p, bw3⟩
      rw [HE.out] at hl_p
      obtain ⟨a_p, c_p, rfl⟩ := hl_p.shape
      have Nw3 := Lib.hid (hl_p.rdI hM)
      clear hl_p
      have sw3 : w2.heap.size ≤ w3.heap.size := bw3.size
      have L_3 := Lib.hid (L_1.out.same (SameIn.below bw3 (by omega)))
      clear L_1
      have L_4 := Lib.hid (Nw2.out.same (SameIn.below bw3 (by omega)))
      clear Nw2
      have BL_5 := Lib.hid (BL_2.out.trans (bw3.mono (by omega)))
      clear BL_2 bw3
      go_wp2_with fail
      refine (sameInts_any _ _ _ _ _ _ L.length _ _ _ L_4.out Nw3.out (fun _ _ => rfl)).mono ?_
      rintro e w4 ⟨rfl, qw4, rfl⟩
      have bw4 := below_drewN (Below.refl w3.heap.size w3) qw4
      obtain ⟨w_w4, ew_w4⟩ : ∃ w', w' = w3.drewN qw4 := ⟨_, rfl⟩
      rw [← ew_w4] at bw4 ⊢
      clear ew_w4
      have sw_w4 : w3.heap.size ≤ w_w4.heap.size := bw4.size
      have L_6 := Lib.hid (L_3.out.same (SameIn.below bw4 (by omega)))
      clear L_3
      have L_7 := Lib.hid (L_4.out.same (SameIn.below bw4 (by omega)))
      clear L_4
      have L_8 := Lib.hid (Nw3.out.same (SameIn.below bw4 (by omega)))
      clear Nw3
      have BL_9 := Lib.hid (BL_5.out.trans (bw4.mono (by omega)))
      clear BL_5 bw4
      by_cases hL0 : L.length = 0
      case pos =>
        have hl0 : ((L.length : Int) == 0) = true := by rw [hL0]; rfl
        clear hL0
        go_wp2_with fail
        refine (sameInts_any _ _ _ _ _ _ L.length _ _ _ L_7.out L_8.out (fun _ _ => rfl)).mono ?_
        rintro e w5 ⟨rfl, qw5, rfl⟩
        have bw5 := below_drewN (Below.refl w_w4.heap.size w_w4) qw5
        obtain ⟨w_w5, ew_w5⟩ : ∃ w', w' = w_w4.drewN qw5 := ⟨_, rfl⟩
        rw [← ew_w5] at bw5 ⊢
        clear ew_w5
        have sw_w5 : w_w4.heap.size ≤ w_w5.heap.size := bw5.size
        have L_10 := Lib.hid (L_6.out.same (SameIn.below bw5 (by omega)))
        clear L_6
        have L_11 := Lib.hid (L_7.out.same (SameIn.below bw5 (by omega)))
        clear L_7
        have L_12 := Lib.hid (L_8.out.same (SameIn.below bw5 (by omega)))
        clear L_8
        have BL_13 := Lib.hid (BL_9.out.trans (bw5.mono (by omega)))
        clear BL_9 bw5
        go_wp2
        go_ret
        exact ⟨rfl, BL_13.out⟩
      case neg =>
        have hl0 : ((L.length : Int) == 0) = false := by rw [beq_eq_false_iff_ne]; omega
        clear hL0
        go_wp2_with fail
        refine ((implGridRange_yes _ 0 w_w4.heap.size g _ (L_6.out.mono (Nat.zero_le _) (by omega)) (Nat.le_refl _) HV.out)).mono ?_
        rintro e w5 ⟨rfl, bw5⟩
        have sw5 : w_w4.heap.size ≤ w5.heap.size := bw5.size
        have L_10 := Lib.hid (L_6.out.same (SameIn.below bw5 (by omega)))
        clear L_6
        have L_11 := Lib.hid (L_7.out.same (SameIn.below bw5 (by omega)))
        clear L_7
        have BL_12 := Lib.hid (BL_9.out.trans (bw5.mono (by omega)))
        clear BL_9 bw5
        rw [ELO.out]
        obtain ⟨mx0, emx⟩ : ∃ m, mx g.flat (g.n * g.len 0) = m := ⟨_, rfl⟩
        rw [emx]
        clear emx
        have HCE := Lib.hid (fun (W : World) (hi : Nat) (h : RdM 0 hi W (.slice (some ⟨bg, og, none⟩) g.n cg) g) => show Calls Try.prog 17 #[.slice (some ⟨bg, og, none⟩) g.n cg] W (NatPost N W) from by
          rw [← EN.out]; exact cellsOf_any _ 0 hi g W h HV.out)
        go_wp2
        go_loopw [9, 10, 11, 12] (fun i x11 x12 x13 wr => ∃ k : Nat, k ≤ N ∧ i = .int .i64 k ∧ Below w5.heap.size w5 wr) (fun i _ _ _ _ => N - (intOf i).toNat)
        case atStart => exact ⟨0, Nat.zero_le _, rfl, Below.refl _ _⟩
        case round =>
          obtain ⟨k, hk, rfl, hbk⟩ := hrel
          have HR := Lib.hid (L_10.out.same (SameIn.below hbk (by omega)))
          have HO := Lib.hid (L_11.out.same (SameIn.below hbk (by omega)))
          have HB := Lib.hid hbk
          have hsk := hbk.size
          clear hbk
          go_wp2_with fail
          refine (HCE.out _ _ HR.out).mono ?_
          rintro e w90 ⟨rfl, rfl⟩
          by_cases hlt : k < N
          case neg =>
            have hge : ¬ (k : Int) < N := by omega
            go_wp2
            go_ret
            exact ⟨rfl, BL_12.out.trans (HB.out.mono (by omega))⟩
          case pos =>
            have hlt' : (k : Int) < N := by omega
            have hltg : k < g.n * g.len 0 := by rw [EN.out]; exact hlt
            have HNE := Lib.hid (nearOf_any _ _ _ g g.n (g.len 0) rfl rfl ⟨k, hltg⟩ wr HR.out (by omega) HV.out)
            have HHA := Lib.hid (show L.any (fun x => x.1 == k) = !((near g.n (g.len 0) ⟨k, hltg⟩ 4).any (fun x => decide (g.flat x.1 < g.flat k))) from HSH.out ⟨k, hltg⟩)
            have HMEM := Lib.hid (show (near g.n (g.len 0) ⟨k, hltg⟩ 4).any (fun x => decide (g.flat x.1 < g.flat k)) = true → g.flat k ≠ lo from fun h e => by
              obtain ⟨x, hx, h2⟩ := List.any_eq_true.1 h
              have h3 := HLO.out x.1 x.2
              have h4 : g.flat x.1 < g.flat k := by simpa using h2
              omega)
            have hl4 := near_len g.n (g.len 0) ⟨k, hltg⟩ 4
            have hk49 : k ≤ 49 := by omega
            go_wp2_with fail
            refine HNE.out.mono ?_
            rintro e w2 ⟨r, rfl, ⟨a, c, rfl⟩, hr, hb2⟩
            have HRI := Lib.hid hr
            have HR2 := Lib.hid (HR.out.same (SameIn.below hb2 (by omega)))
            have HO2 := Lib.hid (HO.out.same (SameIn.below hb2 (by omega)))
            have HB2 := Lib.hid (HB.out.trans (hb2.mono hsk))
            have hs2 := hb2.size
            clear hr hb2 HNE HR HO
            generalize near g.n (g.len 0) ⟨k, hltg⟩ 4 = l at HRI HHA HMEM hl4 ⊢
            go_wp2
            go_loopw [10, 12] (fun b kk wr2 => ∃ j m : Nat, j ≤ l.length ∧ kk = .int .i64 j ∧ b = .bool ((l.take j).any (fun x => decide (g.flat x.1 < g.flat k))) ∧ wr2 = w2.drewN m) (fun _ kk _ => l.length - (intOf kk).toNat)
            case atStart => exact ⟨0, 0, Nat.zero_le _, rfl, by simp, rfl⟩
            case round =>
              obtain ⟨j, m, hj, rfl, rfl, rfl⟩ := hrel
              have HRm := Lib.hid (HR2.out.same (w' := w2.drewN m) (fun _ _ _ => rfl))
              by_cases hjl : j < l.length
              · have hjl' : (j : Int) < l.length := by omega
                obtain ⟨ao, cp, b, off, e1, i2, i3, i4, i5, i6⟩ := HRI.out
                have q1 := i6 j hjl
                rw [ixZ_at l hjl] at q1
                simp only [Value.slice.injEq] at e1
                obtain ⟨rfl, _, rfl⟩ := e1
                obtain ⟨rfl, _, _⟩ := i5 (by omega)
                have HS := Lib.hid (show (l.take (j + 1)).any (fun x => decide (g.flat x.1 < g.flat k)) = ((l.take j).any (fun x => decide (g.flat x.1 < g.flat k)) || decide (g.flat (l[j]).1 < g.flat k)) by rw [List.take_succ_eq_append_getElem hjl, List.any_append]; simp)
                obtain ⟨z, ez⟩ : ∃ z, l[j] = z := ⟨_, rfl⟩
                rw [ez] at q1 HS
                clear ez i4 i5 i6
                generalize hA : (l.take j).any (fun x => decide (g.flat x.1 < g.flat k)) = A at HS ⊢
                clear hA
                cases A
                · go_wp2_with fail
                  refine (heightOf_any _ _ _ g z.1 _ HRm.out HV.out z.2).mono ?_
                  rintro e w5 ⟨rfl, m2, rfl⟩
                  have HRm2 := Lib.hid (HR2.out.same (w' := w2.drewN (m + m2)) (fun _ _ _ => rfl))
                  go_wp2_with fail
                  refine (heightOf_any _ _ _ g k _ HRm2.out HV.out hltg).mono ?_
                  rintro e w6 ⟨rfl, m3, rfl⟩
                  generalize hd : decide (g.flat z.1 < g.flat k) = d at HS
                  cases d <;> (
                    go_wp2
                    go_roundw
                    case rel => exact ⟨j + 1, m + m2 + m3, by omega, by go_num, by rw [HS.out]; simp, rfl⟩
                    case measure => simp [intOf]; omega)
                · go_wp2
                  go_roundw
                  case rel => exact ⟨j + 1, m, by omega, by go_num, by rw [HS.out]; simp, rfl⟩
                  case measure => simp [intOf]; omega
              · have ej : j = l.length := by omega
                subst ej
                rw [List.take_length]
                have HOm := Lib.hid (HO2.out.same (w' := w2.drewN m) (fun _ _ _ => rfl))
                obtain ⟨z, ez⟩ : ∃ z, g.flat k = z := ⟨_, rfl⟩
                have EZ := Lib.hid ez
                clear ez
                have HME := Lib.hid (show l.any (fun x => decide (g.flat x.1 < g.flat k)) = true → z ≠ lo from fun h => EZ.out ▸ HMEM.out h)
                clear HMEM
                generalize l.any (fun x => decide (g.flat x.1 < g.flat k)) = lw at HHA HME ⊢
                cases lw
                · go_wp2_with fail
                  refine (hasInt_any _ _ _ L k _ HOm.out hM hL49 hk49).mono ?_
                  rintro e w7 ⟨rfl, m2, rfl⟩
                  rw [HHA.out]
                  have HRm2 := Lib.hid (HR2.out.same (w' := w2.drewN (m + m2)) (fun _ _ _ => rfl))
                  go_wp2_with fail
                  refine (heightOf_any _ _ _ g k _ HRm2.out HV.out hltg).mono ?_
                  rintro e w8 ⟨rfl, m3, rfl⟩
                  rw [EZ.out]
                  have HOm2 := Lib.hid (HO2.out.same (w' := w2.drewN (m + m2 + m3)) (fun _ _ _ => rfl))
                  by_cases hz : z = lo
                  · have hz' : (z == lo) = true := by simp [hz]
                    go_wp2_with fail
                    refine (hasInt_any _ _ _ L k _ HOm2.out hM hL49 hk49).mono ?_
                    rintro e w9 ⟨rfl, m4, rfl⟩
                    rw [HHA.out]
                    go_wp2
                    go_roundw
                    case rel => exact ⟨k + 1, by omega, by go_num, below_drewN HB2.out _⟩
                    case measure => simp [intOf]; omega
                  · have hz' : (z == lo) = false := by rw [beq_eq_false_iff_ne]; exact hz
                    go_wp2
                    go_roundw
                    case rel => exact ⟨k + 1, by omega, by go_num, below_drewN HB2.out _⟩
                    case measure => simp [intOf]; omega
                · go_wp2_with fail
                  refine (hasInt_any _ _ _ L k _ HOm.out hM hL49 hk49).mono ?_
                  rintro e w7 ⟨rfl, m2, rfl⟩
                  rw [HHA.out]
                  have HRm2 := Lib.hid (HR2.out.same (w' := w2.drewN (m + m2)) (fun _ _ _ => rfl))
                  go_wp2_with fail
                  refine (heightOf_any _ _ _ g k _ HRm2.out HV.out hltg).mono ?_
                  rintro e w8 ⟨rfl, m3, rfl⟩
                  rw [EZ.out]
                  have hz' : (z == lo) = false := by rw [beq_eq_false_iff_ne]; exact HME.out trivial
                  go_wp2
                  go_roundw
                  case rel => exact ⟨k + 1, by omega, by go_num, below_drewN HB2.out _⟩
                  case measure => simp [intOf]; omega
end Go.Proofs.Ytmhcpjekpkdaeaa

