/- The law FnPeakSum of the promises: its walk. -/
import Derived.Test.YtcfeckpbjdipeaaPkW
namespace Go.Proofs.Ytcfeckpbjdipeaa
open Go.RowKit
set_option linter.unusedVariables false

set_option maxHeartbeats 4000000 in
set_option maxRecDepth 100000 in
theorem law_FnPeakSum (v : Value) (n : Nat) (w : World) (hv : RdB w.heap.size w v n) : Calls Try.prog 9 #[v] w (LawPost w) := by
  have HD := Lib.hid (draw_DrawPeakSum v n w.heap.size w hv (Nat.le_refl _))
  obtain ⟨ao, cap, cb, off, Z, rfl, hc1, hc2, _⟩ := hv
  by_cases hn : 1048576 < n
  · have hn' : (1048576 : Int) < n := by omega
    go_enter Try.func9, Try.ntmps9
    go_wp2
    go_ret
    exact ⟨rfl, Below.refl _ _⟩
  · have hn' : ¬ (1048576 : Int) < n := by omega
    go_enter Try.func9, Try.ntmps9
    go_wp2_with fail
    refine HD.out.mono ?_
    rintro e w1 ⟨vg, g, rfl, _, hm, hgn, hgl, bw1⟩
    obtain ⟨ag, cg, rfl⟩ := hm.shapeV
    have R_g := Lib.hid hm
    clear hm HD hgl
    have sw1 : w.heap.size ≤ w1.heap.size := bw1.size
    have BL := Lib.hid bw1
    clear bw1
    by_cases hval : g.Valid
    case neg =>
      go_wp2_with fail
      refine (implSum_no _ 0 w1.heap.size g _ (R_g.out.mono (Nat.zero_le _) (by omega)) (Nat.le_refl _) hval).mono ?_
      rintro e w2 ⟨rfl, bw2⟩
      have sw2 : w1.heap.size ≤ w2.heap.size := bw2.size
      have L_1 := Lib.hid (R_g.out.same (SameIn.below bw2 (by omega)))
      clear R_g
      have BL_2 := Lib.hid (BL.out.trans (bw2.mono (by omega)))
      clear BL bw2
      go_wp2_with fail
      refine (specSum_no _ 0 w2.heap.size g _ (L_1.out.mono (Nat.zero_le _) (by omega)) (Nat.le_refl _) hval).mono ?_
      rintro e w3 ⟨rfl, bw3⟩
      have sw3 : w2.heap.size ≤ w3.heap.size := bw3.size
      have L_3 := Lib.hid (L_1.out.same (SameIn.below bw3 (by omega)))
      clear L_1
      have BL_4 := Lib.hid (BL_2.out.trans (bw3.mono (by omega)))
      clear BL_2 bw3
      go_wp2
      go_ret
      exact ⟨rfl, BL_4.out⟩
    case pos =>
      have hn7 := hval.1.2
      have hn1 := hval.1.1
      have hl7 := hval.2.1.2
      have hl1 := hval.2.1.1
      have h49 := mul_le_49 hn7 hl7
      have hpos : 0 < g.n * g.len 0 := Nat.mul_pos (by omega) (by omega)
      obtain ⟨L, H, m, S, r, hs⟩ := lvSum_ex hval
      have HS := Lib.hid hs
      have hsum := hs.sum
      have htop := hs.top
      have HIS := Lib.hid (fun (W : World) (hi : Nat) (v : Value) (h : RdM 0 hi W v g) (hh : hi ≤ W.heap.size) => hs.all ▸ implPeakSum_any v 0 hi g W h hh)
      have HSS := Lib.hid (fun (W : World) (hi : Nat) (v : Value) (h : RdM 0 hi W v g) (hh : hi ≤ W.heap.size) => hs.all ▸ specPeakSum_any v 0 hi g W h hh)
      have HRG := Lib.hid (fun (W : World) (hi : Nat) (v : Value) (h : RdM 0 hi W v g) (hh : hi ≤ W.heap.size) => by
        have := implGridRange_yes v 0 hi g W h hh hval
        rw [hs.low, hs.high] at this
        exact this)
      have HRE := Lib.hid (fun (k : Nat) (hk : k < m) (W : World) (hi : Nat) (v : Value) (h : RdM 0 hi W v g) (hh : hi ≤ W.heap.size) => by
        have := implLevelRegions_any v 0 hi g ((L : Int) + 1 + (k : Int)) W h hh
        rw [(hs.rg k hk).1] at this
        exact this)
      obtain ⟨T, eT⟩ : ∃ T, S m = T := ⟨_, rfl⟩
      have hT := hs.range m (Nat.le_refl _)
      rw [eT] at HIS HSS hT
      have ET := Lib.hid eT
      have hS0 := Lib.hid hs.zero
      clear hs eT
      go_wp2_with fail
      refine (HIS.out _ w1.heap.size _ (R_g.out.mono (Nat.zero_le _) (by omega)) (Nat.le_refl _)).mono ?_
      rintro e w2 ⟨rfl, bw2⟩
      have sw2 : w1.heap.size ≤ w2.heap.size := bw2.size
      have L_1 := Lib.hid (R_g.out.same (SameIn.below bw2 (by omega)))
      clear R_g
      have BL_2 := Lib.hid (BL.out.trans (bw2.mono (by omega)))
      clear BL bw2
      go_wp2_with fail
      refine (HSS.out _ w2.heap.size _ (L_1.out.mono (Nat.zero_le _) (by omega)) (Nat.le_refl _)).mono ?_
      rintro e w3 ⟨rfl, bw3⟩
      have sw3 : w2.heap.size ≤ w3.heap.size := bw3.size
      have L_3 := Lib.hid (L_1.out.same (SameIn.below bw3 (by omega)))
      clear L_1
      have BL_4 := Lib.hid (BL_2.out.trans (bw3.mono (by omega)))
      clear BL_2 bw3
      have hTT : (T != T) = false := by simp
      have hT0 : decide (T < 0) = false := by simp <;> omega
      go_wp2_with fail
      refine (HRG.out _ w3.heap.size _ (L_3.out.mono (Nat.zero_le _) (by omega)) (Nat.le_refl _)).mono ?_
      rintro e w4 ⟨rfl, bw4⟩
      have sw4 : w3.heap.size ≤ w4.heap.size := bw4.size
      have L_5 := Lib.hid (L_3.out.same (SameIn.below bw4 (by omega)))
      clear L_3
      have BL_6 := Lib.hid (BL_4.out.trans (bw4.mono (by omega)))
      clear BL_4 bw4
      have HGC := Lib.hid (fun (W : World) (hb : Below w4.heap.size w4 W) => (L_5.out.same (SameIn.below hb (by omega))).mono (Nat.zero_le _) (show _ ≤ w4.heap.size by omega))
      clear L_5
      go_wp2
      go_loopw [9, 10] (fun s c wr => ∃ k : Nat, k ≤ m ∧ s = .int .i64 (S k) ∧ c = .int .i64 ((L : Int) + 1 + k) ∧ Below w4.heap.size w4 wr) (fun _ c _ => m - (intOf c - L - 1).toNat)
      case atStart => exact ⟨0, Nat.zero_le _, by rw [hS0.out], by simp, Below.refl _ _⟩
      case round =>
        obtain ⟨k, hk, rfl, rfl, hb⟩ := hrel
        have HB := Lib.hid hb
        have hsz := hb.size
        clear hb
        by_cases hlt : k < m
        · have hle : (L : Int) + 1 + k ≤ H := by omega
          have h1 := HS.out.range k hk
          have h2 := HS.out.range (k + 1) hlt
          have h3 := HS.out.step k hlt
          have H3 := Lib.hid h3
          have HC := Lib.hid (HRE.out k hlt wr w4.heap.size _ (HGC.out _ HB.out) hsz)
          obtain ⟨x, ex⟩ : ∃ x, S k = x := ⟨_, rfl⟩
          obtain ⟨y, ey⟩ : ∃ y, r k = y := ⟨_, rfl⟩
          rw [h3, ex, ey] at h2
          rw [ex, ey] at H3
          rw [ex] at h1 ⊢
          rw [ey] at HC
          clear h3 ex ey
          go_wp2_with fail
          refine HC.out.mono ?_
          rintro e w8 ⟨rfl, b8⟩
          have HB8 := Lib.hid (HB.out.trans (b8.mono hsz))
          clear b8
          go_wp2
          go_roundw
          case rel => exact ⟨k + 1, hlt, by rw [H3.out], by go_num, HB8.out⟩
          case measure => simp [intOf]; omega
        · obtain rfl : k = m := by omega
          have hle : ¬ (L : Int) + 1 + k ≤ H := by omega
          rw [ET.out]
          have hTb : (T == T) = true := by simp
          go_wp2
          go_ret
          exact ⟨rfl, BL_6.out.trans (HB.out.mono (by omega))⟩
end Go.Proofs.Ytcfeckpbjdipeaa
