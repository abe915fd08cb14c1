/- The law FnClimb of the promises: its walk. -/
import Derived.Test.YtgcebhmenffbjabPrC
namespace Go.Proofs.Ytgcebhmenffbjab
open Go.RowKit
set_option linter.unusedVariables false

set_option maxHeartbeats 4000000 in
set_option maxRecDepth 100000 in
theorem law_FnClimb (v : Value) (n : Nat) (w : World) (hv : RdB w.heap.size w v n) : Calls Try.prog 11 #[v] w (LawPost w) := by
  have HD := Lib.hid (draw_DrawProfileClimb v n w.heap.size w hv (Nat.le_refl _))
  obtain ⟨ao, cap, cb, off, Z, rfl, hc1, hc2, _⟩ := hv
  by_cases hn : 1048576 < n
  · have hn' : (1048576 : Int) < n := by omega
    go_enter Try.func11, Try.ntmps11
    go_wp2
    go_ret
    exact ⟨rfl, Below.refl _ _⟩
  · have hn' : ¬ (1048576 : Int) < n := by omega
    go_enter Try.func11, Try.ntmps11
    go_wp2_with fail
    refine HD.out.mono ?_
    rintro e w1 ⟨vp, n0, z0, rfl, _, hm, hn9, hzz, bw1⟩
    obtain ⟨ap, cp, rfl⟩ := hm.shape
    have R_p := Lib.hid hm
    have HZZ := Lib.hid hzz
    clear hm hzz HD
    have sw1 : w.heap.size ≤ w1.heap.size := bw1.size
    have BL := Lib.hid bw1
    clear bw1
    by_cases hok : PrOk n0 z0
    case neg =>
      go_wp2_with fail
      refine (implClimb_no _ 0 w1.heap.size n0 z0 _ (R_p.out.mono (Nat.zero_le _) (by omega)) (Nat.le_refl _) hok).mono ?_
      rintro e w2 ⟨rfl, bw2⟩
      have sw2 : w1.heap.size ≤ w2.heap.size := bw2.size
      have L_1 := Lib.hid (R_p.out.same (SameIn.below bw2 (by omega)))
      clear R_p
      have BL_2 := Lib.hid (BL.out.trans (bw2.mono (by omega)))
      clear BL bw2
      go_wp2_with fail
      refine (specClimb_no _ 0 w2.heap.size n0 z0 _ (L_1.out.mono (Nat.zero_le _) (by omega)) (Nat.le_refl _) hok).mono ?_
      rintro e w3 ⟨rfl, bw3⟩
      have sw3 : w2.heap.size ≤ w3.heap.size := bw3.size
      have L_3 := Lib.hid (L_1.out.same (SameIn.below bw3 (by omega)))
      clear L_1
      have BL_4 := Lib.hid (BL_2.out.trans (bw3.mono (by omega)))
      clear BL_2 bw3
      go_wp2
      go_ret
      exact ⟨rfl, BL_4.out⟩
    case pos =>
      have HLV := Lib.hid (level_iff z0 (n0 - 1))
      have HUD := Lib.hid (up_sub_dn z0 (n0 - 1))
      have HU1 := Lib.hid (upV_rng hok.2 (n0 - 1) (by have := hok.1.1; omega))
      have HD1 := Lib.hid (dnV_rng hok.2 (n0 - 1) (by have := hok.1.1; omega))
      have hn1 := hok.1.1
      have hn20 := hok.1.2
      have HZ := Lib.hid hok.2
      go_wp2_with fail
      refine (implClimb_yes _ 0 w1.heap.size n0 z0 _ (R_p.out.mono (Nat.zero_le _) (by omega)) (Nat.le_refl _) hok).mono ?_
      rintro e w2 ⟨rfl, bw2⟩
      have sw2 : w1.heap.size ≤ w2.heap.size := bw2.size
      have L_1 := Lib.hid (R_p.out.same (SameIn.below bw2 (by omega)))
      clear R_p
      have BL_2 := Lib.hid (BL.out.trans (bw2.mono (by omega)))
      clear BL bw2
      go_wp2_with fail
      refine (specClimb_yes _ 0 w2.heap.size n0 z0 _ (L_1.out.mono (Nat.zero_le _) (by omega)) (Nat.le_refl _) hok).mono ?_
      rintro e w3 ⟨rfl, bw3⟩
      have sw3 : w2.heap.size ≤ w3.heap.size := bw3.size
      have L_3 := Lib.hid (L_1.out.same (SameIn.below bw3 (by omega)))
      clear L_1
      have BL_4 := Lib.hid (BL_2.out.trans (bw3.mono (by omega)))
      clear BL_2 bw3
      obtain ⟨U, eU⟩ : ∃ U, upV z0 (n0 - 1) = U := ⟨_, rfl⟩
      obtain ⟨D, eD⟩ : ∃ U, dnV z0 (n0 - 1) = U := ⟨_, rfl⟩
      obtain ⟨m, rfl⟩ : ∃ m, n0 = m + 1 := ⟨n0 - 1, by omega⟩
      have em : m + 1 - 1 = m := by omega
      rw [em] at eU eD HLV HUD HU1 HD1 ⊢
      rw [eU, eD] at HLV HUD ⊢
      rw [eU] at HU1
      rw [eD] at HD1
      clear em eU eD hok
      have hUU : (U != U) = false := by simp
      have hDD : (D != D) = false := by simp
      obtain ⟨b, off, cap, e1, k1, _, k3, k4⟩ := L_3.out.open (by omega)
      have HC := Lib.hid k4
      clear k4
      rw [e1]
      have c0 := HC.out 0 (by omega)
      obtain ⟨z00, ez00⟩ : ∃ x, z0 0 = x := ⟨_, rfl⟩
      rw [ez00, Nat.add_zero] at c0
      go_wp2
      go_loopw [10, 11] (fun a c wr => ∃ (kk : Nat) (ab : Bool) (q : Nat), kk ≤ m ∧ c = .int .i64 ((kk : Int) + 1) ∧ a = .bool ab ∧ (ab = true ↔ ∀ x, x ≤ kk → z0 x = z00) ∧ wr = w3.drewN q) (fun _ c _ => m + 2 - (intOf c).toNat)
      case atStart => exact ⟨0, true, 0, by omega, rfl, rfl, ⟨fun _ x hx => (by rw [show x = 0 by omega]; exact ez00), fun _ => rfl⟩, rfl⟩
      case round =>
        obtain ⟨kk, ab, q, hk, rfl, rfl, hd, rfl⟩ := hrel
        have HDD := Lib.hid hd
        clear hd
        by_cases hlt : kk < m
        · have hlt' : (kk : Int) + 1 < (m : Int) + 1 := by omega
          have hlt3 : (kk : Int) < m := by omega
          have hm0 : (0 : Int) < (m : Int) + 1 := by omega
          have hkm : (kk : Int) + 1 < ((m + 1 : Nat) : Int) := by omega
          have ck := HC.out (kk + 1) (by omega)
          obtain ⟨y, ey⟩ : ∃ x, z0 (kk + 1) = x := ⟨_, rfl⟩
          rw [ey] at ck
          cases ab with
          | false =>
            have HF := Lib.hid (show ¬ ∀ x, x ≤ kk → z0 x = z00 from fun g => by have := HDD.out.2 g; cases this)
            clear HDD
            go_wp2
            go_quiet (fail)
            go_wp2
            go_roundw
            case rel => exact ⟨kk + 1, false, _, by omega, by go_num, rfl, ⟨fun h => (by cases h), fun g => absurd (fun x hx => g x (by omega)) HF.out⟩, rfl⟩
            case measure => simp [intOf]; omega
          | true =>
            have HT := Lib.hid (HDD.out.1 rfl)
            clear HDD
            by_cases hyz : y = z00
            · have hyb : (y == z00) = true := by rw [beq_iff_eq]; exact hyz
              have HY := Lib.hid (ey.trans hyz)
              clear hyz ey
              go_wp2
              go_quiet (fail)
              go_wp2
              go_roundw
              case rel => exact ⟨kk + 1, true, _, by omega, by go_num, rfl, ⟨fun _ x hx => by
                by_cases ex : x = kk + 1
                · subst ex; exact HY.out
                · exact HT.out x (by omega), fun _ => rfl⟩, rfl⟩
              case measure => simp [intOf]; omega
            · have hyb : (y == z00) = false := by rw [beq_eq_false_iff_ne]; exact hyz
              have HY := Lib.hid (show ¬ z0 (kk + 1) = z00 from fun g => hyz (ey.symm.trans g))
              clear hyz ey
              go_wp2
              go_quiet (fail)
              go_wp2
              go_roundw
              case rel => exact ⟨kk + 1, false, _, by omega, by go_num, rfl, ⟨fun h => (by cases h), fun g => absurd (g (kk + 1) (Nat.le_refl _)) HY.out⟩, rfl⟩
              case measure => simp [intOf]; omega
        · obtain rfl : kk = m := by omega
          have hlt' : ¬ (kk : Int) + 1 < (kk : Int) + 1 := by omega
          have hkm : ¬ (kk : Int) + 1 < ((kk + 1 : Nat) : Int) := by omega
          have cm := HC.out kk (by omega)
          obtain ⟨u1, u2⟩ := HU1.out
          obtain ⟨d1, d2⟩ := HD1.out
          have hzm := HZ.out kk (by omega)
          have hz0 := HZ.out 0 (by omega)
          rw [ez00] at hz0
          have hud := HUD.out
          rw [ez00] at hud
          obtain ⟨y, ey⟩ : ∃ x, z0 kk = x := ⟨_, rfl⟩
          rw [ey] at cm hzm hud
          obtain ⟨hzm1, hzm2⟩ := hzm
          obtain ⟨hz01, hz02⟩ := hz0
          have hb1 : (U - D == y - z00) = true := by rw [beq_iff_eq]; exact hud
          have hkk : (kk : Int) < (kk : Int) + 1 := by omega
          have hkk0 : (0 : Int) < (kk : Int) + 1 := by omega
          have hb2 : ((U + D == 0) == ab) = true := by
            rw [beq_iff_eq]
            cases ab with
            | true =>
              rw [beq_iff_eq]
              exact HLV.out.2 (fun x hx => by rw [ez00]; exact HDD.out.1 rfl x hx)
            | false =>
              rw [beq_eq_false_iff_ne]
              exact fun g => by have := HDD.out.2 (fun x hx => by rw [← ez00]; exact HLV.out.1 g x hx); cases this
          have HBW := Lib.hid (below_drewN BL_4.out q)
          clear hud ey ez00 HDD
          go_wp2
          go_quiet (fail)
          go_wp2
          go_ret
          exact ⟨rfl, below_drewN HBW.out _⟩
end Go.Proofs.Ytgcebhmenffbjab
