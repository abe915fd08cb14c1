/- The law FnSeen of the promises: its walk. -/
import Derived.Test.YtgcebhmenffbjabPrE
namespace Go.Proofs.Ytgcebhmenffbjab
open Go.RowKit
set_option linter.unusedVariables false

set_option maxHeartbeats 4000000 in
set_option maxRecDepth 100000 in
theorem law_FnSeen (v : Value) (n : Nat) (w : World) (hv : RdB w.heap.size w v n) : Calls Try.prog 4 #[v] w (LawPost w) := by
  have HD := Lib.hid (draw_DrawProfileSeen v n w.heap.size w hv (Nat.le_refl _))
  obtain ⟨ao, cap, cb, off, Z, rfl, hc1, hc2, _⟩ := hv
  by_cases hn : 1048576 < n
  · have hn' : (1048576 : Int) < n := by omega
    go_enter Try.func4, Try.ntmps4
    go_wp2
    go_ret
    exact ⟨rfl, Below.refl _ _⟩
  · have hn' : ¬ (1048576 : Int) < n := by omega
    go_enter Try.func4, Try.ntmps4
    go_wp2_with fail
    refine HD.out.mono ?_
    rintro e w1 ⟨vp, n0, z0, k0, rfl, _, hm, hn9, hzz, hk0, bw1⟩
    obtain ⟨ap, cp, rfl⟩ := hm.shape
    have R_p := Lib.hid hm
    have HZZ := Lib.hid hzz
    clear hm hzz HD
    have sw1 : w.heap.size ≤ w1.heap.size := bw1.size
    have BL := Lib.hid bw1
    clear bw1
    have hk64 : I64 k0 := ⟨by omega, by omega⟩
    by_cases hok : PrAt n0 z0 k0
    case neg =>
      go_wp2_with fail
      refine (implSeenL_no _ 0 w1.heap.size n0 z0 k0 _ (R_p.out.mono (Nat.zero_le _) (by omega)) (Nat.le_refl _) hk64 hok).mono ?_
      rintro e w2 ⟨_, rfl, ⟨_, _, _, rfl⟩, ow2, bw2⟩
      have Nw2 := Lib.hid (ow2.rd)
      clear ow2
      have sw2 : w1.heap.size ≤ w2.heap.size := bw2.size
      have L_1 := Lib.hid (R_p.out.same (SameIn.below bw2 (by omega)))
      clear R_p
      have BL_2 := Lib.hid (BL.out.trans (bw2.mono (by omega)))
      clear BL bw2
      obtain ⟨_, _, e0⟩ := (Nw2.out).shape
      simp only [Value.slice.injEq] at e0
      obtain ⟨rfl, rfl, rfl⟩ := e0
      go_wp2_with fail
      refine (specSeenL_no _ 0 w2.heap.size n0 z0 k0 _ (L_1.out.mono (Nat.zero_le _) (by omega)) (Nat.le_refl _) hok).mono ?_
      rintro e w3 ⟨_, rfl, ⟨_, _, _, rfl⟩, ow3, bw3⟩
      have Nw3 := Lib.hid (ow3)
      clear ow3
      have sw3 : w2.heap.size ≤ w3.heap.size := bw3.size
      have L_3 := Lib.hid (L_1.out.same (SameIn.below bw3 (by omega)))
      clear L_1
      have L_4 := Lib.hid (Nw2.out.same (SameIn.below bw3 (by omega)))
      clear Nw2
      have BL_5 := Lib.hid (BL_2.out.trans (bw3.mono (by omega)))
      clear BL_2 bw3
      go_wp2_with fail
      refine (sameInts_any _ _ _ _ _ _ (0) _ _ _ L_4.out Nw3.out (fun _ _ => rfl)).mono ?_
      intro e w4 hq
      obtain ⟨rfl, bw4⟩ := hq.bl
      clear hq
      have sw4 : w3.heap.size ≤ w4.heap.size := bw4.size
      have L_6 := Lib.hid (L_3.out.same (SameIn.below bw4 (by omega)))
      clear L_3
      have L_7 := Lib.hid (L_4.out.same (SameIn.below bw4 (by omega)))
      clear L_4
      have L_8 := Lib.hid (Nw3.out.same (SameIn.below bw4 (by omega)))
      clear Nw3
      have BL_9 := Lib.hid (BL_5.out.trans (bw4.mono (by omega)))
      clear BL_5 bw4
      go_wp2_with fail
      refine (sameInts_any _ _ _ _ _ _ (0) _ _ _ L_7.out L_8.out (fun _ _ => rfl)).mono ?_
      intro e w5 hq
      obtain ⟨rfl, bw5⟩ := hq.bl
      clear hq
      have sw5 : w4.heap.size ≤ w5.heap.size := bw5.size
      have L_10 := Lib.hid (L_6.out.same (SameIn.below bw5 (by omega)))
      clear L_6
      have L_11 := Lib.hid (L_7.out.same (SameIn.below bw5 (by omega)))
      clear L_7
      have L_12 := Lib.hid (L_8.out.same (SameIn.below bw5 (by omega)))
      clear L_8
      have BL_13 := Lib.hid (BL_9.out.trans (bw5.mono (by omega)))
      clear BL_9 bw5
      go_wp2
      go_ret
      exact ⟨rfl, BL_13.out⟩
    case pos =>
      obtain ⟨i0, rfl, hi0n⟩ := hok.nat
      have hPr := hok.1
      have hn20 := hok.1.1.2
      have hn1 := hok.1.1.1
      have HSL := Lib.hid (snL_len z0 i0 n0)
      have HPOS := Lib.hid (List.length_pos_of_mem ((snL_mem z0 i0 n0 (i0 : Int)).2 ⟨i0, hi0n, rfl, sees_self z0 i0 0⟩))
      have HHAS := Lib.hid (fun (k : Nat) (hk : k < n0) => has_sn (z := z0) (i := i0) hk)
      go_wp2_with fail
      refine (implSeenL_yes _ 0 w1.heap.size n0 z0 i0 _ (R_p.out.mono (Nat.zero_le _) (by omega)) (Nat.le_refl _) hPr hi0n).mono ?_
      rintro e w2 ⟨_, rfl, ⟨_, _, _, rfl⟩, ow2, bw2⟩
      have Nw2 := Lib.hid (ow2.rd)
      clear ow2
      have sw2 : w1.heap.size ≤ w2.heap.size := bw2.size
      have L_1 := Lib.hid (R_p.out.same (SameIn.below bw2 (by omega)))
      clear R_p
      have BL_2 := Lib.hid (BL.out.trans (bw2.mono (by omega)))
      clear BL bw2
      obtain ⟨L, eL⟩ : ∃ L, snL z0 i0 n0 = L := ⟨_, rfl⟩
      have HSP := Lib.hid (fun (W : World) (v : Value) (hi : Nat) (h : RdI 0 hi W v n0 z0) (hh : hi ≤ W.heap.size) => specSeenL_yes v 0 hi n0 z0 i0 W h hh hPr hi0n)
      rw [eL] at Nw2 HSL HPOS HHAS HSP
      obtain ⟨_, _, e0⟩ := (Nw2.out).shape
      simp only [Value.slice.injEq] at e0
      obtain ⟨rfl, rfl, rfl⟩ := e0
      have hlen : L.length ≤ n0 := HSL.out
      have hpos := HPOS.out
      have hpb : ((L.length : Int) == 0) = false := by rw [beq_eq_false_iff_ne]; omega
      clear hok eL hk64
      go_wp2_with fail
      refine (HSP.out _ _ w2.heap.size (L_1.out.mono (Nat.zero_le _) (by omega)) (Nat.le_refl _)).mono ?_
      rintro e w3 ⟨_, rfl, ⟨_, _, _, rfl⟩, ow3, bw3⟩
      have Nw3 := Lib.hid (ow3)
      clear ow3
      have sw3 : w2.heap.size ≤ w3.heap.size := bw3.size
      have L_3 := Lib.hid (L_1.out.same (SameIn.below bw3 (by omega)))
      clear L_1
      have L_4 := Lib.hid (Nw2.out.same (SameIn.below bw3 (by omega)))
      clear Nw2
      have BL_5 := Lib.hid (BL_2.out.trans (bw3.mono (by omega)))
      clear BL_2 bw3
      go_wp2_with fail
      refine (sameInts_any _ _ _ _ _ _ (L.length) _ _ _ L_4.out Nw3.out (fun _ _ => rfl)).mono ?_
      intro e w4 hq
      obtain ⟨rfl, bw4⟩ := hq.bl
      clear hq
      have sw4 : w3.heap.size ≤ w4.heap.size := bw4.size
      have L_6 := Lib.hid (L_3.out.same (SameIn.below bw4 (by omega)))
      clear L_3
      have L_7 := Lib.hid (L_4.out.same (SameIn.below bw4 (by omega)))
      clear L_4
      have L_8 := Lib.hid (Nw3.out.same (SameIn.below bw4 (by omega)))
      clear Nw3
      have BL_9 := Lib.hid (BL_5.out.trans (bw4.mono (by omega)))
      clear BL_5 bw4
      have HRO := Lib.hid (fun (W : World) (hb : Below w4.heap.size w4 W) => L_7.out.same (SameIn.below hb (by omega)))
      have HRP := Lib.hid (fun (W : World) (hb : Below w4.heap.size w4 W) => L_6.out.same (SameIn.below hb (by omega)))
      go_wp2
      go_loopw [7] (fun c wr => ∃ k : Nat, k ≤ n0 ∧ c = .int .i64 k ∧ Below w4.heap.size w4 wr) (fun c _ => n0 - (intOf c).toNat)
      case atStart => exact ⟨0, Nat.zero_le _, rfl, Below.refl _ _⟩
      case round =>
        obtain ⟨k, hk, rfl, hb⟩ := hrel
        have HB := Lib.hid hb
        have hszb := hb.size
        clear hb
        by_cases hlt : k < n0
        · have hlt' : (k : Int) < n0 := by omega
          have HQ := HHAS.out k hlt
          have HH := Lib.hid (fun (W : World) (hb : Below w4.heap.size w4 W) => hasN_any _ _ _ L (k : Int) W (HRO.out W hb) (by omega))
          have HS := Lib.hid (fun (W : World) (hb : Below w4.heap.size w4 W) => implSees_at _ 0 w4.heap.size n0 z0 i0 k W ((HRP.out W hb).mono (Nat.zero_le _) (by omega)) hb.size hPr hi0n hlt)
          rw [HQ] at HH
          clear HQ
          by_cases hs : Sees z0 i0 k 0
          · have HT := Lib.hid (seB_yes hs)
            rw [HT.out] at HH HS
            clear hs
            go_wp2_with fail
            refine (HH.out _ HB.out).mono ?_
            rintro e w8 ⟨rfl, b8⟩
            have HB8 := Lib.hid (HB.out.trans (b8.mono hszb))
            clear b8
            go_wp2_with fail
            refine (HS.out _ HB8.out).mono ?_
            rintro e w9 ⟨rfl, b9⟩
            have HB9 := Lib.hid (HB8.out.trans (b9.mono HB8.out.size))
            clear b9
            by_cases h1 : -1 ≤ (k : Int) - i0
            · by_cases h2 : (k : Int) - i0 ≤ 1
              · go_wp2_with fail
                refine (HH.out _ HB9.out).mono ?_
                rintro e w10 ⟨rfl, b10⟩
                have HB10 := Lib.hid (HB9.out.trans (b10.mono HB9.out.size))
                clear b10
                go_wp2
                go_roundw
                case rel => exact ⟨k + 1, by omega, by go_num, HB10.out⟩
                case measure => simp [intOf]; omega
              · have h2' : decide ((k : Int) - i0 ≤ 1) = false := by simp; omega
                go_wp2
                go_roundw
                case rel => exact ⟨k + 1, by omega, by go_num, HB9.out⟩
                case measure => simp [intOf]; omega
            · have h1' : decide (-1 ≤ (k : Int) - i0) = false := by simp; omega
              go_wp2
              go_roundw
              case rel => exact ⟨k + 1, by omega, by go_num, HB9.out⟩
              case measure => simp [intOf]; omega
          · have HT := Lib.hid (seB_no hs)
            have hfar : ¬ (k ≤ i0 + 1 ∧ i0 ≤ k + 1) := fun g => hs (sees_near z0 i0 k g.1 g.2 0)
            rw [HT.out] at HH HS
            clear hs
            go_wp2_with fail
            refine (HH.out _ HB.out).mono ?_
            rintro e w8 ⟨rfl, b8⟩
            have HB8 := Lib.hid (HB.out.trans (b8.mono hszb))
            clear b8
            go_wp2_with fail
            refine (HS.out _ HB8.out).mono ?_
            rintro e w9 ⟨rfl, b9⟩
            have HB9 := Lib.hid (HB8.out.trans (b9.mono HB8.out.size))
            clear b9
            by_cases h1 : -1 ≤ (k : Int) - i0
            · have h2' : decide ((k : Int) - i0 ≤ 1) = false := by simp; omega
              go_wp2
              go_roundw
              case rel => exact ⟨k + 1, by omega, by go_num, HB9.out⟩
              case measure => simp [intOf]; omega
            · have h1' : decide (-1 ≤ (k : Int) - i0) = false := by simp; omega
              go_wp2
              go_roundw
              case rel => exact ⟨k + 1, by omega, by go_num, HB9.out⟩
              case measure => simp [intOf]; omega
        · obtain rfl : k = n0 := by omega
          have HBF := Lib.hid (BL_9.out.trans (HB.out.mono (by omega)))
          go_wp2
          go_ret
          exact ⟨rfl, HBF.out⟩
end Go.Proofs.Ytgcebhmenffbjab
