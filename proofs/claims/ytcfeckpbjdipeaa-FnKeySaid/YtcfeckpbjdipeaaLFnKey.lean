/- The law FnKey of the promises: its walk. -/
import Derived.Test.YtcfeckpbjdipeaaPkX
namespace Go.Proofs.Ytcfeckpbjdipeaa
open Go.RowKit
set_option linter.unusedVariables false

set_option maxHeartbeats 4000000 in
set_option maxRecDepth 100000 in
theorem law_FnKey (v : Value) (n : Nat) (w : World) (hv : RdB w.heap.size w v n) : Calls Try.prog 5 #[v] w (LawPost w) := by
  have HD := Lib.hid (draw_DrawPeakKey v n w.heap.size w hv (Nat.le_refl _))
  obtain ⟨ao, cap, cb, off, Z, rfl, hc1, hc2, _⟩ := hv
  by_cases hn : 1048576 < n
  · have hn' : (1048576 : Int) < n := by omega
    go_enter Try.func5, Try.ntmps5
    go_wp2
    go_ret
    exact ⟨rfl, Below.refl _ _⟩
  · have hn' : ¬ (1048576 : Int) < n := by omega
    go_enter Try.func5, Try.ntmps5
    go_wp2_with fail
    refine HD.out.mono ?_
    rintro e w1 ⟨vg, g, i0, rfl, _, hm, hgn, hgl, hi0, bw1⟩
    obtain ⟨ag, cg, rfl⟩ := hm.shapeV
    have R_g := Lib.hid hm
    clear hm HD hgl
    have sw1 : w.heap.size ≤ w1.heap.size := bw1.size
    have BL := Lib.hid bw1
    clear bw1
    by_cases hok : g.pkB i0 = true
    case neg =>
      have hno : g.pkB i0 = false := by simpa using hok
      go_wp2_with fail
      refine (implKey_no _ 0 w1.heap.size g i0 _ (R_g.out.mono (Nat.zero_le _) (by omega)) (Nat.le_refl _) hno).mono ?_
      rintro e w2 ⟨rfl, bw2⟩
      have sw2 : w1.heap.size ≤ w2.heap.size := bw2.size
      have L_1 := Lib.hid (R_g.out.same (SameIn.below bw2 (by omega)))
      clear R_g
      have BL_2 := Lib.hid (BL.out.trans (bw2.mono (by omega)))
      clear BL bw2
      go_wp2_with fail
      refine (specKey_no _ 0 w2.heap.size g i0 _ (L_1.out.mono (Nat.zero_le _) (by omega)) (Nat.le_refl _) hno).mono ?_
      rintro e w3 ⟨rfl, bw3⟩
      have sw3 : w2.heap.size ≤ w3.heap.size := bw3.size
      have L_3 := Lib.hid (L_1.out.same (SameIn.below bw3 (by omega)))
      clear L_1
      have BL_4 := Lib.hid (BL_2.out.trans (bw3.mono (by omega)))
      clear BL_2 bw3
      go_wp2
      go_ret
      exact ⟨rfl, BL_4.out⟩
    case pos =>
      obtain ⟨hval, i, hi, rfl, hpk⟩ := pkB_yes' hok
      have hn7 := hval.1.2
      have hn1 := hval.1.1
      have hl7 := hval.2.1.2
      have hl1 := hval.2.1.1
      have h49 := mul_le_49 hn7 hl7
      have hpos : 0 < g.n * g.len 0 := Nat.mul_pos (by omega) (by omega)
      have hZ : ∀ x, x < g.n * g.len 0 → 0 ≤ g.flat x ∧ g.flat x ≤ 99 := fun y hy => flat_okW hval hy
      have hkr := keyN_range hZ hi
      have hzr := hZ i hi
      obtain ⟨hf0, hfy, hfn, hfr, hpr, hfe, hkt⟩ := kyF_facts hZ hi
      have HI := Lib.hid (fun (W : World) (hi' : Nat) (v : Value) (h : RdM 0 hi' W v g) (hh : hi' ≤ W.heap.size) => implKey_n v 0 hi' g i hi W h hh hval hpk)
      have HS := Lib.hid (fun (W : World) (hi' : Nat) (v : Value) (h : RdM 0 hi' W v g) (hh : hi' ≤ W.heap.size) => specKey_n v 0 hi' g i hi W h hh hval hpk)
      have HPA := Lib.hid (fun (k : Nat) (hk : k < g.n * g.len 0) (W : World) (hi' : Nat) (v : Value) (h : RdM 0 hi' W v g) (hh : hi' ≤ W.heap.size) => implPs_n v 0 hi' g i k hi hk W h hh hval)
      have HHI := Lib.hid (fun (k : Nat) (hk : k < g.n * g.len 0) (W : World) (hi' : Nat) (v : Value) (h : RdM 0 hi' W v g) => higher_any v 0 hi' g k i W h hval hk hi)
      have HH := Lib.hid (fun (W : World) (hi' : Nat) (v : Value) (h : RdM 0 hi' W v g) => heightOf_any v 0 hi' g i W h hval hi)
      have HR := Lib.hid (fun (W : World) (hi' : Nat) (v : Value) (h : RdM 0 hi' W v g) (hh : hi' ≤ W.heap.size) => implGridRange_yes v 0 hi' g W h hh hval)
      have HCE := Lib.hid (fun (W : World) (hi' : Nat) (v : Value) (h : RdM 0 hi' W v g) => cellsOf_any v 0 hi' g W h hval)
      have HIR := Lib.hid (hiB_irr g.flat i)
      obtain ⟨F, eF⟩ : ∃ F : Nat → Int, kyF g.n (g.len 0) g.flat i = F := ⟨_, rfl⟩
      obtain ⟨P, eP⟩ : ∃ P : Nat → Int, psN g.n (g.len 0) g.flat i = P := ⟨_, rfl⟩
      obtain ⟨B, eB⟩ : ∃ B : Nat → Bool, (fun k => hiB g.flat k i) = B := ⟨_, rfl⟩
      have eB' : ∀ k, hiB g.flat k i = B k := fun k => by rw [← eB]
      obtain ⟨z, ez⟩ : ∃ z, g.flat i = z := ⟨_, rfl⟩
      obtain ⟨y, ey⟩ : ∃ y, keyN g.n (g.len 0) g.flat i = y := ⟨_, rfl⟩
      obtain ⟨low, el⟩ : ∃ y, mn g.flat (g.n * g.len 0) = y := ⟨_, rfl⟩
      obtain ⟨N, eN⟩ : ∃ y, g.n * g.len 0 = y := ⟨_, rfl⟩
      simp only [eF, eP, eB', ez, ey, el] at hf0 hfy hfn hfr hpr hfe hkt HI HS HPA HHI HH HR HIR hkr hzr
      simp only [eN] at hfr hpr hfe HPA HHI hi h49 HCE
      have HF0 := Lib.hid hf0
      have HFY := Lib.hid hfy
      have HFN := Lib.hid hfn
      have HFR := Lib.hid hfr
      have HPR := Lib.hid hpr
      have HFE := Lib.hid hfe
      clear hf0 hfy hfn hfr hpr hfe eF eP eB eB' ez ey el eN hpos hok hZ hpk
      go_wp2_with fail
      refine (HI.out _ w1.heap.size _ (R_g.out.mono (Nat.zero_le _) (by omega)) (Nat.le_refl _)).mono ?_
      rintro e w2 ⟨rfl, bw2⟩
      have sw2 : w1.heap.size ≤ w2.heap.size := bw2.size
      have L_1 := Lib.hid (R_g.out.same (SameIn.below bw2 (by omega)))
      clear R_g
      have BL_2 := Lib.hid (BL.out.trans (bw2.mono (by omega)))
      clear BL bw2
      go_wp2_with fail
      refine (HS.out _ w2.heap.size _ (L_1.out.mono (Nat.zero_le _) (by omega)) (Nat.le_refl _)).mono ?_
      rintro e w3 ⟨rfl, bw3⟩
      have sw3 : w2.heap.size ≤ w3.heap.size := bw3.size
      have L_3 := Lib.hid (L_1.out.same (SameIn.below bw3 (by omega)))
      clear L_1
      have BL_4 := Lib.hid (BL_2.out.trans (bw3.mono (by omega)))
      clear BL_2 bw3
      have hTT : (y != y) = false := by simp
      have hT0 : decide (y < 0) = false := by simp <;> omega
      have HGC := Lib.hid (fun (W : World) (hb : Below w3.heap.size w3 W) => (L_3.out.same (SameIn.below hb (by omega))).mono (Nat.zero_le _) (show _ ≤ w3.heap.size by omega))
      go_wp2
      go_loopw [7, 8] (fun a c' wr => ∃ k : Nat, k ≤ N ∧ a = .int .i64 (F k) ∧ c' = .int .i64 k ∧ Below w3.heap.size w3 wr) (fun _ c' _ => N - (intOf c').toNat)
      case atStart => exact ⟨0, Nat.zero_le _, by rw [HF0.out], rfl, Below.refl _ _⟩
      case round =>
        obtain ⟨k, hk, rfl, rfl, hb⟩ := hrel
        have HB := Lib.hid hb
        have hsz := hb.size
        clear hb
        have HC := Lib.hid (HCE.out wr w3.heap.size _ (HGC.out _ HB.out))
        by_cases hlt : k < N
        · have hlt' : (k : Int) < N := by omega
          have hfr := HFR.out k hk
          have hpr := HPR.out k hlt
          have HIC := Lib.hid (HHI.out k hlt wr w3.heap.size _ (HGC.out _ HB.out))
          have HPC := Lib.hid (fun (W : World) (hb : Below w3.heap.size w3 W) => HPA.out k hlt W w3.heap.size _ (HGC.out _ hb) hb.size)
          by_cases hki : k = i
          · subst hki
            have HNX := Lib.hid (HFN.out k HIR.out)
            have hb1 : ((k : Int) != (k : Int)) = false := by simp
            go_wp2_with fail
            refine HC.out.mono ?_
            rintro e w7 ⟨rfl, rfl⟩
            go_wp2
            go_roundw
            case rel => exact ⟨k + 1, hlt, by rw [HNX.out], by go_num, HB.out⟩
            case measure => simp [intOf]; omega
          · have hb1 : ((k : Int) != (i : Int)) = true := by rw [bne_iff_ne]; omega
            have hfy := HFY.out k
            have hfn := HFN.out k
            obtain ⟨t, et⟩ : ∃ t, B k = t := ⟨_, rfl⟩
            rw [et] at HIC hfy hfn
            clear et hki
            obtain ⟨f, ef⟩ : ∃ f, F k = f := ⟨_, rfl⟩
            obtain ⟨p, ep⟩ : ∃ p, P k = p := ⟨_, rfl⟩
            rw [ef] at hfr hfy hfn ⊢
            rw [ep] at hpr hfy
            simp only [ep] at HPC
            clear ef ep
            cases t with
            | false =>
              have HNX := Lib.hid (hfn rfl)
              clear hfy hfn
              go_wp2_with fail
              refine HC.out.mono ?_
              rintro e w7 ⟨rfl, rfl⟩
              go_wp2_with fail
              refine HIC.out.mono ?_
              rintro e w8 ⟨rfl, b8⟩
              have HB8 := Lib.hid (HB.out.trans (b8.mono hsz))
              clear b8
              go_wp2
              go_roundw
              case rel => exact ⟨k + 1, hlt, by rw [HNX.out], by go_num, HB8.out⟩
              case measure => simp [intOf]; omega
            | true =>
              have HNX := Lib.hid (hfy rfl)
              clear hfy hfn
              go_wp2_with fail
              refine HC.out.mono ?_
              rintro e w7 ⟨rfl, rfl⟩
              go_wp2_with fail
              refine HIC.out.mono ?_
              rintro e w8 ⟨rfl, b8⟩
              have HB8 := Lib.hid (HB.out.trans (b8.mono hsz))
              clear b8
              go_wp2_with fail
              refine (HPC.out _ HB8.out).mono ?_
              rintro e w9 ⟨rfl, b9⟩
              have HB9 := Lib.hid (HB8.out.trans (b9.mono HB8.out.size))
              clear b9
              go_wp2
              go_roundw
              case rel => exact ⟨k + 1, hlt, by rw [HNX.out], by go_num, HB9.out⟩
              case measure => simp [intOf]; omega
        · have hlt' : ¬ (k : Int) < N := by omega
          obtain rfl : k = N := by omega
          have hfe := HFE.out
          have hfr := HFR.out k hk
          obtain ⟨f, ef⟩ : ∃ f, F k = f := ⟨_, rfl⟩
          rw [ef] at hfe hfr ⊢
          have HFE2 := Lib.hid hfe
          clear ef hfe
          go_wp2_with fail
          refine HC.out.mono ?_
          rintro e w7 ⟨rfl, rfl⟩
          go_wp2_with fail
          refine (HR.out wr w3.heap.size _ (HGC.out _ HB.out) hsz).mono ?_
          rintro e w8 ⟨rfl, b8⟩
          have HB8 := Lib.hid (HB.out.trans (b8.mono hsz))
          have hs8 := HB8.out.size
          clear b8
          have hfe := HFE2.out
          by_cases hf : f < 0
          · rw [if_pos hf] at hfe
            have hyl : (y == low) = true := by rw [beq_iff_eq]; exact hfe
            have HBF := Lib.hid (BL_4.out.trans (HB8.out.mono (by omega)))
            clear hfe
            go_wp2
            go_ret
            exact ⟨rfl, HBF.out⟩
          · rw [if_neg hf] at hfe
            have hyl : (y == f) = true := by rw [beq_iff_eq]; exact hfe
            clear hfe
            go_wp2_with fail
            refine (HH.out w8 w3.heap.size _ (HGC.out _ HB8.out)).mono ?_
            rintro e w9 ⟨rfl, q9, rfl⟩
            have HBF := Lib.hid (BL_4.out.trans ((below_drewN HB8.out q9).mono (by omega)))
            go_wp2
            go_ret
            exact ⟨rfl, HBF.out⟩
end Go.Proofs.Ytcfeckpbjdipeaa
