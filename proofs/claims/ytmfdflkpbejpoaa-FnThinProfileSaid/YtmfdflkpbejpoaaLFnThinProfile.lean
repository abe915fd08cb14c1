/- The law FnThinProfile of the promises: its walk. -/
import Derived.Test.YtmfdflkpbejpoaaThRb
import Derived.Test.YtmfdflkpbejpoaaDrawX
namespace Go.Proofs.Ytmfdflkpbejpoaa
open Go.RowKit
set_option linter.unusedVariables false

set_option maxHeartbeats 4000000 in
set_option maxRecDepth 100000 in
theorem law_FnThinProfile (v : Value) (n : Nat) (w : World) (hv : RdB w.heap.size w v n) : Calls Try.prog 10 #[v] w (LawPost w) := by
  have HD := Lib.hid (draw_DrawThinProfile v n w.heap.size w hv (Nat.le_refl _))
  obtain ⟨ao, cap, cb, off, Z, rfl, hc1, hc2, _⟩ := hv
  by_cases hn : 1048576 < n
  · have hn' : (1048576 : Int) < n := by omega
    go_enter Try.func10, Try.ntmps10
    go_wp2
    go_ret
    exact ⟨rfl, Below.refl _ _⟩
  · have hn' : ¬ (1048576 : Int) < n := by omega
    go_enter Try.func10, Try.ntmps10
    go_wp2_with fail
    refine HD.out.mono ?_
    rintro e w1 ⟨vp, n0, z0, vu, m0, y0, rfl, hm, hmu, hn8, hm8, hzz, bw1⟩
    obtain ⟨ap, cp, rfl⟩ := hm.shape
    obtain ⟨au, cu, rfl⟩ := hmu.shape
    have R_p := Lib.hid hm
    have R_u := Lib.hid hmu
    have HZZ := Lib.hid hzz
    clear hm hmu hzz HD
    have sw1 : w.heap.size ≤ w1.heap.size := bw1.size
    have BL := Lib.hid bw1
    clear bw1
    by_cases hok : ThOk n0 z0 m0 y0
    case neg =>
      go_wp2_with fail
      refine (implTP_no _ _ 0 w1.heap.size 0 w1.heap.size n0 m0 z0 y0 _ (R_p.out.mono (Nat.zero_le _) (by omega)) (R_u.out.mono (Nat.zero_le _) (by omega)) (Nat.le_refl _) (Nat.le_refl _) (by omega) hok).mono ?_
      rintro e w2 ⟨_, rfl, ⟨_, _, _, rfl⟩, ow2, bw2⟩
      have Nw2 := Lib.hid (ow2.rd)
      clear ow2
      have sw2 : w1.heap.size ≤ w2.heap.size := bw2.size
      have L_1 := Lib.hid (R_p.out.same (SameIn.below bw2 (by omega)))
      clear R_p
      have L_2 := Lib.hid (R_u.out.same (SameIn.below bw2 (by omega)))
      clear R_u
      have BL_3 := Lib.hid (BL.out.trans (bw2.mono (by omega)))
      clear BL bw2
      go_wp2_with fail
      refine (specTP_no _ _ 0 w2.heap.size 0 w2.heap.size n0 m0 z0 y0 _ (L_1.out.mono (Nat.zero_le _) (by omega)) (L_2.out.mono (Nat.zero_le _) (by omega)) (Nat.le_refl _) (Nat.le_refl _) (by omega) (by omega) hok).mono ?_
      rintro e w3 ⟨_, rfl, ⟨_, _, _, rfl⟩, ow3, bw3⟩
      have Nw3 := Lib.hid (ow3)
      clear ow3
      have sw3 : w2.heap.size ≤ w3.heap.size := bw3.size
      have L_4 := Lib.hid (L_1.out.same (SameIn.below bw3 (by omega)))
      clear L_1
      have L_5 := Lib.hid (L_2.out.same (SameIn.below bw3 (by omega)))
      clear L_2
      have L_6 := Lib.hid (Nw2.out.same (SameIn.below bw3 (by omega)))
      clear Nw2
      have BL_7 := Lib.hid (BL_3.out.trans (bw3.mono (by omega)))
      clear BL_3 bw3
      go_wp2_with fail
      refine (sameInts_any _ _ _ _ _ _ (0) _ _ _ L_6.out Nw3.out (fun _ _ => rfl)).mono ?_
      intro e w4 hq
      obtain ⟨rfl, bw4⟩ := hq.bl
      clear hq
      have sw4 : w3.heap.size ≤ w4.heap.size := bw4.size
      have L_8 := Lib.hid (L_4.out.same (SameIn.below bw4 (by omega)))
      clear L_4
      have L_9 := Lib.hid (L_5.out.same (SameIn.below bw4 (by omega)))
      clear L_5
      have L_10 := Lib.hid (L_6.out.same (SameIn.below bw4 (by omega)))
      clear L_6
      have L_11 := Lib.hid (Nw3.out.same (SameIn.below bw4 (by omega)))
      clear Nw3
      have BL_12 := Lib.hid (BL_7.out.trans (bw4.mono (by omega)))
      clear BL_7 bw4
      go_wp2_with fail
      refine (sameInts_any _ _ _ _ _ _ (0) _ _ _ L_10.out L_11.out (fun _ _ => rfl)).mono ?_
      intro e w5 hq
      obtain ⟨rfl, bw5⟩ := hq.bl
      clear hq
      have sw5 : w4.heap.size ≤ w5.heap.size := bw5.size
      have L_13 := Lib.hid (L_8.out.same (SameIn.below bw5 (by omega)))
      clear L_8
      have L_14 := Lib.hid (L_9.out.same (SameIn.below bw5 (by omega)))
      clear L_9
      have L_15 := Lib.hid (L_10.out.same (SameIn.below bw5 (by omega)))
      clear L_10
      have L_16 := Lib.hid (L_11.out.same (SameIn.below bw5 (by omega)))
      clear L_11
      have BL_17 := Lib.hid (BL_12.out.trans (bw5.mono (by omega)))
      clear BL_12 bw5
      go_wp2
      go_ret
      exact ⟨rfl, BL_17.out⟩
    case pos =>
      have hn1 := hok.1.1.1
      have hm1 := hok.2.1
      have HUP := Lib.hid (up_thin hok)
      have HFP := Lib.hid (hgP_ok hok)
      have HAT := Lib.hid (fun i (hi : i < m0) => hgP_at z0 y0 m0 i hi)
      have HNA := Lib.hid (fun i (hi : i < m0) => hok.nat i hi)
      have HRG := Lib.hid (fun i (hi : i < m0) => hgF_rng hok i hi)
      have HU1 := Lib.hid (upV_rng hok.1.2 (n0 - 1) (by omega))
      have HD1 := Lib.hid (dnV_rng hok.1.2 (n0 - 1) (by omega))
      go_wp2_with fail
      refine (implTP_yes _ _ 0 w1.heap.size 0 w1.heap.size n0 m0 z0 y0 _ (R_p.out.mono (Nat.zero_le _) (by omega)) (R_u.out.mono (Nat.zero_le _) (by omega)) (Nat.le_refl _) (Nat.le_refl _) (by omega) hok).mono ?_
      rintro e w2 ⟨_, rfl, ⟨_, _, _, rfl⟩, ow2, bw2⟩
      have Nw2 := Lib.hid (ow2.rd)
      clear ow2
      have sw2 : w1.heap.size ≤ w2.heap.size := bw2.size
      have L_1 := Lib.hid (R_p.out.same (SameIn.below bw2 (by omega)))
      clear R_p
      have L_2 := Lib.hid (R_u.out.same (SameIn.below bw2 (by omega)))
      clear R_u
      have BL_3 := Lib.hid (BL.out.trans (bw2.mono (by omega)))
      clear BL bw2
      go_wp2_with fail
      refine (specTP_yes _ _ 0 w2.heap.size 0 w2.heap.size n0 m0 z0 y0 _ (L_1.out.mono (Nat.zero_le _) (by omega)) (L_2.out.mono (Nat.zero_le _) (by omega)) (Nat.le_refl _) (Nat.le_refl _) (by omega) (by omega) hok).mono ?_
      rintro e w3 ⟨_, rfl, ⟨_, _, _, rfl⟩, ow3, bw3⟩
      have Nw3 := Lib.hid (ow3)
      clear ow3
      have sw3 : w2.heap.size ≤ w3.heap.size := bw3.size
      have L_4 := Lib.hid (L_1.out.same (SameIn.below bw3 (by omega)))
      clear L_1
      have L_5 := Lib.hid (L_2.out.same (SameIn.below bw3 (by omega)))
      clear L_2
      have L_6 := Lib.hid (Nw2.out.same (SameIn.below bw3 (by omega)))
      clear Nw2
      have BL_7 := Lib.hid (BL_3.out.trans (bw3.mono (by omega)))
      clear BL_3 bw3
      go_wp2_with fail
      refine (sameInts_any _ _ _ _ _ _ (m0) _ _ _ L_6.out Nw3.out (fun _ _ => rfl)).mono ?_
      intro e w4 hq
      obtain ⟨rfl, bw4⟩ := hq.bl
      clear hq
      have sw4 : w3.heap.size ≤ w4.heap.size := bw4.size
      have L_8 := Lib.hid (L_4.out.same (SameIn.below bw4 (by omega)))
      clear L_4
      have L_9 := Lib.hid (L_5.out.same (SameIn.below bw4 (by omega)))
      clear L_5
      have L_10 := Lib.hid (L_6.out.same (SameIn.below bw4 (by omega)))
      clear L_6
      have L_11 := Lib.hid (Nw3.out.same (SameIn.below bw4 (by omega)))
      clear Nw3
      have BL_12 := Lib.hid (BL_7.out.trans (bw4.mono (by omega)))
      clear BL_7 bw4
      go_wp2_with fail
      refine (implClimb_yes _ 0 w4.heap.size n0 z0 _ (L_8.out.mono (Nat.zero_le _) (by omega)) (Nat.le_refl _) hok.1).mono ?_
      rintro e w5 ⟨rfl, bw5⟩
      have sw5 : w4.heap.size ≤ w5.heap.size := bw5.size
      have L_13 := Lib.hid (L_8.out.same (SameIn.below bw5 (by omega)))
      clear L_8
      have L_14 := Lib.hid (L_9.out.same (SameIn.below bw5 (by omega)))
      clear L_9
      have L_15 := Lib.hid (L_10.out.same (SameIn.below bw5 (by omega)))
      clear L_10
      have L_16 := Lib.hid (L_11.out.same (SameIn.below bw5 (by omega)))
      clear L_11
      have BL_17 := Lib.hid (BL_12.out.trans (bw5.mono (by omega)))
      clear BL_12 bw5
      go_wp2_with fail
      refine (implClimb_yes _ 0 w5.heap.size m0 (hgP z0 y0 m0) _ (L_15.out.mono (Nat.zero_le _) (by omega)) (Nat.le_refl _) HFP.out).mono ?_
      rintro e w6 ⟨rfl, bw6⟩
      have sw6 : w5.heap.size ≤ w6.heap.size := bw6.size
      have L_18 := Lib.hid (L_13.out.same (SameIn.below bw6 (by omega)))
      clear L_13
      have L_19 := Lib.hid (L_14.out.same (SameIn.below bw6 (by omega)))
      clear L_14
      have L_20 := Lib.hid (L_15.out.same (SameIn.below bw6 (by omega)))
      clear L_15
      have L_21 := Lib.hid (L_16.out.same (SameIn.below bw6 (by omega)))
      clear L_16
      have BL_22 := Lib.hid (BL_17.out.trans (bw6.mono (by omega)))
      clear BL_17 bw6
      obtain ⟨U, eU⟩ : ∃ U, upV z0 (n0 - 1) = U := ⟨_, rfl⟩
      obtain ⟨D, eD⟩ : ∃ U, dnV z0 (n0 - 1) = U := ⟨_, rfl⟩
      obtain ⟨U2, eU2⟩ : ∃ U, upV (hgP z0 y0 m0) (m0 - 1) = U := ⟨_, rfl⟩
      obtain ⟨D2, eD2⟩ : ∃ U, dnV (hgP z0 y0 m0) (m0 - 1) = U := ⟨_, rfl⟩
      rw [eU, eD, eU2, eD2] at HUP
      rw [eU, eD, eU2, eD2]
      obtain ⟨hU, hD⟩ := HUP.out
      obtain ⟨bo, oo, co, eo, _, _, _, go⟩ := L_20.out.open (by omega)
      obtain ⟨bu, ou, cu', eu, _, _, _, gu⟩ := L_19.out.open (by omega)
      obtain ⟨bp, op, cp', ep, _, _, _, gp⟩ := L_18.out.open (by omega)
      simp only [Value.slice.injEq] at eo eu ep
      obtain ⟨h11, h12, h13⟩ := eo
      obtain ⟨h21, _, h23⟩ := eu
      obtain ⟨h31, _, h33⟩ := ep
      have h12' := h12.symm
      subst h11 h13 h21 h23 h31 h33
      subst h12'
      have HGO := Lib.hid (fun (W : World) (hb : Below w6.heap.size w6 W) (i : Nat) (hi : i < m0) => show W.cell? ⟨bo, oo + i, none⟩ = some (.int .i64 (hgP z0 y0 m0 i)) from by
        obtain ⟨_, _, _, e, _, _, _, g⟩ := (L_20.out.same (SameIn.below hb (by omega))).open (by omega)
        simp only [Value.slice.injEq, Option.some.injEq, Addr.mk.injEq] at e
        obtain ⟨⟨rfl, rfl, _⟩, _, _⟩ := e
        exact g i hi)
      have HGU := Lib.hid (fun (W : World) (hb : Below w6.heap.size w6 W) (i : Nat) (hi : i < m0) => show W.cell? ⟨bu, ou + i, none⟩ = some (.int .i64 (y0 i)) from by
        obtain ⟨_, _, _, e, _, _, _, g⟩ := (L_19.out.same (SameIn.below hb (by omega))).open (by omega)
        simp only [Value.slice.injEq, Option.some.injEq, Addr.mk.injEq] at e
        obtain ⟨⟨rfl, rfl, _⟩, _, _⟩ := e
        exact g i hi)
      have HGP := Lib.hid (fun (W : World) (hb : Below w6.heap.size w6 W) (i : Nat) (hi : i < n0) => show W.cell? ⟨bp, op + i, none⟩ = some (.int .i64 (z0 i)) from by
        obtain ⟨_, _, _, e, _, _, _, g⟩ := (L_18.out.same (SameIn.below hb (by omega))).open (by omega)
        simp only [Value.slice.injEq, Option.some.injEq, Addr.mk.injEq] at e
        obtain ⟨⟨rfl, rfl, _⟩, _, _⟩ := e
        exact g i hi)
      clear go gu gp hok eU eD eU2 eD2
      have hmm : ((m0 : Int) != m0) = false := by simp
      go_wp2
      go_loopw [15] (fun c wr => ∃ k : Nat, k ≤ m0 ∧ c = .int .i64 k ∧ Below w6.heap.size w6 wr) (fun c _ => m0 - (intOf c).toNat)
      case atStart => exact ⟨0, Nat.zero_le _, rfl, Below.refl _ _⟩
      case round =>
        obtain ⟨k, hk, rfl, hb⟩ := hrel
        have HB := Lib.hid hb
        have hszb := hb.size
        clear hb
        by_cases hlt : k < m0
        · have hlt' : (k : Int) < m0 := by omega
          have q1 := HGO.out _ HB.out k hlt
          have q2 := HGU.out _ HB.out k hlt
          obtain ⟨j, ej, hjn, hkj⟩ := HNA.out k hlt
          have q3 := HGP.out _ HB.out j hjn
          have r1 := HRG.out k hlt
          unfold hgF at r1
          rw [HAT.out k hlt] at q1
          rw [ej, Int.toNat_natCast] at q1 r1
          rw [ej] at q2
          obtain ⟨x, ex⟩ : ∃ x, z0 j = x := ⟨_, rfl⟩
          rw [ex] at q1 q3 r1
          obtain ⟨hx1, hx2⟩ := r1
          have hjn' : (j : Int) < n0 := by omega
          have hxx : (x != x) = false := by simp
          clear ex ej
          go_wp2
          go_quiet (fail)
          go_wp2
          go_roundw
          case rel => exact ⟨k + 1, by omega, by go_num, below_drewN HB.out _⟩
          case measure => simp [intOf]; omega
        · have hlt' : ¬ (k : Int) < m0 := by omega
          have HBF := Lib.hid (BL_22.out.trans (HB.out.mono (by omega)))
          go_wp2
          go_ret
          exact ⟨rfl, HBF.out⟩
end Go.Proofs.Ytmfdflkpbejpoaa
