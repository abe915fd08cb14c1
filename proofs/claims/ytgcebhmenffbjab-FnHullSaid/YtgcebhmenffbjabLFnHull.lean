/- The law FnHull of the promises: its walk. -/
import Derived.Test.YtgcebhmenffbjabPrE
import Derived.Test.YtgcebhmenffbjabPrHu
import Derived.Test.YtgcebhmenffbjabPrEc
namespace Go.Proofs.Ytgcebhmenffbjab
open Go.RowKit
set_option linter.unusedVariables false

set_option maxHeartbeats 4000000 in
set_option maxRecDepth 100000 in
theorem law_FnHull (v : Value) (n : Nat) (w : World) (hv : RdB w.heap.size w v n) : Calls Try.prog 7 #[v] w (LawPost w) := by
  have HD := Lib.hid (draw_DrawProfileHull v n w.heap.size w hv (Nat.le_refl _))
  obtain ⟨ao, cap, cb, off, Z, rfl, hc1, hc2, _⟩ := hv
  by_cases hn : 1048576 < n
  · have hn' : (1048576 : Int) < n := by omega
    go_enter Try.func7, Try.ntmps7
    go_wp2
    go_ret
    exact ⟨rfl, Below.refl _ _⟩
  · have hn' : ¬ (1048576 : Int) < n := by omega
    go_enter Try.func7, Try.ntmps7
    go_wp2_with fail
    refine HD.out.mono ?_
    rintro e w1 ⟨vp, n0, z0, rfl, _, hm, hn9, hzz, bw1⟩
    obtain ⟨ap, cp, rfl⟩ := hm.shape
    have R_p := Lib.hid hm
    have HZZ := Lib.hid hzz
    clear hm hzz HD
    have sw1 : w.heap.size ≤ w1.heap.size := bw1.size
    have BL := Lib.hid bw1
    clear bw1
    by_cases hok : PrOk n0 z0
    case neg =>
      go_wp2_with fail
      refine (implHull_no _ 0 w1.heap.size n0 z0 _ (R_p.out.mono (Nat.zero_le _) (by omega)) (Nat.le_refl _) hok).mono ?_
      rintro e w2 ⟨_, rfl, ⟨_, _, _, rfl⟩, ow2, bw2⟩
      have Nw2 := Lib.hid (ow2.rd)
      clear ow2
      have sw2 : w1.heap.size ≤ w2.heap.size := bw2.size
      have L_1 := Lib.hid (R_p.out.same (SameIn.below bw2 (by omega)))
      clear R_p
      have BL_2 := Lib.hid (BL.out.trans (bw2.mono (by omega)))
      clear BL bw2
      go_wp2_with fail
      refine (specHull_no _ 0 w2.heap.size n0 z0 _ (L_1.out.mono (Nat.zero_le _) (by omega)) (Nat.le_refl _) hok).mono ?_
      rintro e w3 ⟨_, rfl, ⟨_, _, _, rfl⟩, ow3, bw3⟩
      have Nw3 := Lib.hid (ow3)
      clear ow3
      have sw3 : w2.heap.size ≤ w3.heap.size := bw3.size
      have L_3 := Lib.hid (L_1.out.same (SameIn.below bw3 (by omega)))
      clear L_1
      have L_4 := Lib.hid (Nw2.out.same (SameIn.below bw3 (by omega)))
      clear Nw2
      have BL_5 := Lib.hid (BL_2.out.trans (bw3.mono (by omega)))
      clear BL_2 bw3
      go_wp2_with fail
      refine (sameInts_any _ _ _ _ _ _ (0) _ _ _ L_4.out Nw3.out (fun _ _ => rfl)).mono ?_
      intro e w4 hq
      obtain ⟨rfl, bw4⟩ := hq.bl
      clear hq
      have sw4 : w3.heap.size ≤ w4.heap.size := bw4.size
      have L_6 := Lib.hid (L_3.out.same (SameIn.below bw4 (by omega)))
      clear L_3
      have L_7 := Lib.hid (L_4.out.same (SameIn.below bw4 (by omega)))
      clear L_4
      have L_8 := Lib.hid (Nw3.out.same (SameIn.below bw4 (by omega)))
      clear Nw3
      have BL_9 := Lib.hid (BL_5.out.trans (bw4.mono (by omega)))
      clear BL_5 bw4
      go_wp2_with fail
      refine (sameInts_any _ _ _ _ _ _ (0) _ _ _ L_7.out L_8.out (fun _ _ => rfl)).mono ?_
      intro e w5 hq
      obtain ⟨rfl, bw5⟩ := hq.bl
      clear hq
      have sw5 : w4.heap.size ≤ w5.heap.size := bw5.size
      have L_10 := Lib.hid (L_6.out.same (SameIn.below bw5 (by omega)))
      clear L_6
      have L_11 := Lib.hid (L_7.out.same (SameIn.below bw5 (by omega)))
      clear L_7
      have L_12 := Lib.hid (L_8.out.same (SameIn.below bw5 (by omega)))
      clear L_8
      have BL_13 := Lib.hid (BL_9.out.trans (bw5.mono (by omega)))
      clear BL_9 bw5
      go_wp2
      go_ret
      exact ⟨rfl, BL_13.out⟩
    case pos =>
      have hn1 := hok.1.1
      have hn20 := hok.1.2
      have HADJ := Lib.hid (huL_adj n0 z0 n0).1
      have HFST := Lib.hid (show 0 < (huL n0 z0 n0).length ∧ nsZ (huL n0 z0 n0) 0 = 0 from by
        obtain ⟨m, rfl⟩ : ∃ m, n0 = m + 1 := ⟨n0 - 1, by omega⟩
        exact huL_first (m + 1) z0 m)
      have HLST := Lib.hid (huL_last n0 z0 hn1)
      have HLEN := Lib.hid (huL_len n0 z0 n0)
      have HZ := Lib.hid hok.2
      go_wp2_with fail
      refine (implHull_yes _ 0 w1.heap.size n0 z0 _ (R_p.out.mono (Nat.zero_le _) (by omega)) (Nat.le_refl _) hok).mono ?_
      rintro e w2 ⟨_, rfl, ⟨_, _, _, rfl⟩, ow2, bw2⟩
      have Nw2 := Lib.hid (ow2.rd)
      clear ow2
      have sw2 : w1.heap.size ≤ w2.heap.size := bw2.size
      have L_1 := Lib.hid (R_p.out.same (SameIn.below bw2 (by omega)))
      clear R_p
      have BL_2 := Lib.hid (BL.out.trans (bw2.mono (by omega)))
      clear BL bw2
      go_wp2_with fail
      refine (specHull_yes _ 0 w2.heap.size n0 z0 _ (L_1.out.mono (Nat.zero_le _) (by omega)) (Nat.le_refl _) hok).mono ?_
      rintro e w3 ⟨_, rfl, ⟨_, _, _, rfl⟩, ow3, bw3⟩
      have Nw3 := Lib.hid (ow3)
      clear ow3
      have sw3 : w2.heap.size ≤ w3.heap.size := bw3.size
      have L_3 := Lib.hid (L_1.out.same (SameIn.below bw3 (by omega)))
      clear L_1
      have L_4 := Lib.hid (Nw2.out.same (SameIn.below bw3 (by omega)))
      clear Nw2
      have BL_5 := Lib.hid (BL_2.out.trans (bw3.mono (by omega)))
      clear BL_2 bw3
      obtain ⟨L, eL⟩ : ∃ L, huL n0 z0 n0 = L := ⟨_, rfl⟩
      rw [eL] at L_4 Nw3 HADJ HFST HLST HLEN
      obtain ⟨_, _, e0⟩ := (L_4.out).shape
      simp only [Value.slice.injEq] at e0
      obtain ⟨rfl, rfl, rfl⟩ := e0
      clear eL
      go_wp2_with fail
      refine (sameInts_any _ _ _ _ _ _ (L.length) _ _ _ L_4.out Nw3.out (fun _ _ => rfl)).mono ?_
      intro e w4 hq
      obtain ⟨rfl, bw4⟩ := hq.bl
      clear hq
      have sw4 : w3.heap.size ≤ w4.heap.size := bw4.size
      have L_6 := Lib.hid (L_3.out.same (SameIn.below bw4 (by omega)))
      clear L_3
      have L_7 := Lib.hid (L_4.out.same (SameIn.below bw4 (by omega)))
      clear L_4
      have L_8 := Lib.hid (Nw3.out.same (SameIn.below bw4 (by omega)))
      clear Nw3
      have BL_9 := Lib.hid (BL_5.out.trans (bw4.mono (by omega)))
      clear BL_5 bw4
      obtain ⟨hl0, hl1⟩ := HFST.out
      have hlast := HLST.out
      have hlen := HLEN.out
      have HRP := Lib.hid L_6.out
      obtain ⟨bP, oP, capP, e1, k1, _, k3, k4⟩ := L_6.out.open (by omega)
      simp only [Value.slice.injEq] at e1
      obtain ⟨rfl, _, rfl⟩ := e1
      have HCC := Lib.hid (fun (W : World) (hb : Below w4.heap.size w4 W) (j : Nat) (hj : j < n0) => (hb.cell (p := ⟨bP, oP + j, none⟩) (by show bP < _; omega)).trans (k4 j hj))
      obtain ⟨bL, oL, capL, e2, k5, _, k7, k8⟩ := L_7.out.open hl0
      simp only [Value.slice.injEq] at e2
      obtain ⟨rfl, _, rfl⟩ := e2
      have HLL := Lib.hid (fun (W : World) (hb : Below w4.heap.size w4 W) (j : Nat) (hj : j < L.length) => (hb.cell (p := ⟨bL, oL + j, none⟩) (by show bL < _; omega)).trans (k8 j hj))
      clear k4 k8
      have hlt0 : (0 : Int) < L.length := by omega
      go_wp2
      go_loopw [9] (fun c wr => ∃ m : Nat, m + 1 ≤ L.length ∧ c = .int .i64 ((m : Int) + 1) ∧ Below w4.heap.size w4 wr) (fun c _ => L.length - (intOf c).toNat)
      case atStart => exact ⟨0, by omega, rfl, Below.refl _ _⟩
      case round =>
        obtain ⟨m, hm, rfl, hb⟩ := hrel
        have HB := Lib.hid hb
        have hszb := hb.size
        clear hb
        by_cases hlt : m + 1 < L.length
        · have hlt' : (m : Int) + 1 < L.length := by omega
          have hlt2 : (m : Int) < L.length := by omega
          obtain ⟨i, k, ei, ek, hkn, hnext⟩ := HADJ.out m hlt
          have c1 := HLL.out _ HB.out m (by omega)
          have c2 := HLL.out _ HB.out (m + 1) hlt
          rw [ei] at c1
          rw [ek] at c2
          have hsv := ss_at hok (show i < n0 by have := hnext.1; omega) hkn (huL_sees hnext hkn)
          have hik := hnext.1
          have HNX := Lib.hid hnext
          have HEI := Lib.hid ei
          clear hnext ei ek
          go_wp2_with fail
          refine (implSees_b _ 0 w4.heap.size n0 z0 i k true _ ((HRP.out.same (SameIn.below HB.out (by omega))).mono (Nat.zero_le _) (by omega)) hszb (by omega) (by omega) hsv).mono ?_
          rintro e w8 ⟨rfl, b8⟩
          have HB8 := Lib.hid (HB.out.trans (b8.mono hszb))
          clear b8 c1 c2 hsv
          by_cases hm0 : m = 0
          · subst hm0
            go_wp2
            go_roundw
            case rel => exact ⟨1, by omega, by go_num, HB8.out⟩
            case measure => simp [intOf]; omega
          · obtain ⟨m', rfl⟩ : ∃ m', m = m' + 1 := ⟨m - 1, by omega⟩
            have hm1 : (1 : Int) < ((m' + 1 : Nat) : Int) + 1 := by omega
            obtain ⟨h, i2, eh, ei2, hi2n, hprev⟩ := HADJ.out m' (by omega)
            have hii : i2 = i := by have h1 := HEI.out; rw [ei2] at h1; omega
            subst hii
            have c0 := HLL.out _ HB8.out m' (by omega)
            rw [eh] at c0
            have hhi := hprev.1
            have hin : i2 < n0 := by omega
            have hU := hprev.2.2.1 h k hhi hik hkn
            have p1 := HCC.out _ HB8.out h (by omega)
            have p2 := HCC.out _ HB8.out i2 hin
            have p3 := HCC.out _ HB8.out k hkn
            obtain ⟨a1, a2⟩ := HZ.out h (by omega)
            obtain ⟨a3, a4⟩ := HZ.out i2 hin
            obtain ⟨a5, a6⟩ := HZ.out k hkn
            unfold Und at hU
            obtain ⟨zh, ezh⟩ : ∃ q, z0 h = q := ⟨_, rfl⟩
            obtain ⟨zi, ezi⟩ : ∃ q, z0 i2 = q := ⟨_, rfl⟩
            obtain ⟨zk, ezk⟩ : ∃ q, z0 k = q := ⟨_, rfl⟩
            rw [ezh] at p1 a1 a2 hU
            rw [ezi] at p2 a3 a4 hU
            rw [ezk] at p3 a5 a6 hU
            obtain ⟨r1, r2⟩ := mul_rng (zi - zh) ((k : Int) - i2) (by omega) (by omega) (by omega) (by omega)
            obtain ⟨r3, r4⟩ := mul_rng (zk - zi) ((i2 : Int) - h) (by omega) (by omega) (by omega) (by omega)
            have hcmp : (zk - zi) * ((i2 : Int) - h) < (zi - zh) * ((k : Int) - i2) := by
              have e3 : zi * ((k : Int) - h) = zi * ((k : Int) - i2) + zi * ((i2 : Int) - h) := by rw [← Int.mul_add]; congr 1; omega
              rw [Int.sub_mul, Int.sub_mul]
              omega
            obtain ⟨P1, e1⟩ : ∃ x, (zi - zh) * ((k : Int) - i2) = x := ⟨_, rfl⟩
            obtain ⟨P2, e2⟩ : ∃ x, (zk - zi) * ((i2 : Int) - h) = x := ⟨_, rfl⟩
            rw [e1, e2] at hcmp
            rw [e1] at r1 r2
            rw [e2] at r3 r4
            have hcmp' : ¬ P1 ≤ P2 := by omega
            have hk' : (k : Int) < n0 := by omega
            have hi' : (i2 : Int) < n0 := by omega
            have hh' : (h : Int) < n0 := by omega
            have hm2 : ((m' : Int)) < L.length := by omega
            clear hU ezh ezi ezk hprev eh ei2
            go_wp2
            go_quiet (fail)
            go_wp2
            go_roundw
            case rel => exact ⟨m' + 2, by omega, by go_num, below_drewN HB8.out _⟩
            case measure => simp [intOf]; omega
        · obtain ⟨N, eN⟩ : ∃ N, L.length = N + 1 := ⟨L.length - 1, by omega⟩
          have c1 := HLL.out _ HB.out 0 (by omega)
          have c2 := HLL.out _ HB.out N (by omega)
          rw [hl1, Nat.add_zero] at c1
          rw [show L.length - 1 = N by omega] at hlast
          rw [hlast] at c2
          have hlt' : ¬ (m : Int) + 1 < L.length := by omega
          have hNL : (L.length : Int) - 1 = N := by omega
          have hN2 : (N : Int) < L.length := by omega
          have hfin : (((n0 : Int) - 1) == (n0 : Int) - 1) = true := by simp
          have HBF := Lib.hid (BL_9.out.trans (HB.out.mono (by omega)))
          clear hl1 hlast eN
          go_wp2
          go_ret
          exact ⟨rfl, HBF.out⟩
end Go.Proofs.Ytgcebhmenffbjab
