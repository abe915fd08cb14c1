/- The law FnPeakRegions of the promises: its walk. -/
import Derived.Test.YtcfeckpbjdipeaaPkW
namespace Go.Proofs.Ytcfeckpbjdipeaa
open Go.RowKit
set_option linter.unusedVariables false

set_option maxHeartbeats 4000000 in
set_option maxRecDepth 100000 in
theorem law_FnPeakRegions (v : Value) (n : Nat) (w : World) (hv : RdB w.heap.size w v n) : Calls Try.prog 11 #[v] w (LawPost w) := by
  have HD := Lib.hid (draw_DrawLevelRegions v n w.heap.size w hv (Nat.le_refl _))
  obtain ⟨ao, cap, cb, off, Z, rfl, hc1, hc2, _⟩ := hv
  by_cases hn : 1048576 < n
  · have hn' : (1048576 : Int) < n := by omega
    go_enter Try.func11, Try.ntmps11
    go_wp2
    go_ret
    exact ⟨rfl, Below.refl _ _⟩
  · have hn' : ¬ (1048576 : Int) < n := by omega
    go_enter Try.func11, Try.ntmps11
    go_wp2_with fail
    refine HD.out.mono ?_
    rintro e w1 ⟨vg, g, lv, rfl, _, hm, hgn, hgl, hlv, bw1⟩
    obtain ⟨ag, cg, rfl⟩ := hm.shapeV
    have R_g := Lib.hid hm
    clear hm HD hgl
    have sw1 : w.heap.size ≤ w1.heap.size := bw1.size
    have BL := Lib.hid bw1
    clear bw1
    by_cases hok : g.LvOk lv
    case neg =>
      go_wp2_with fail
      refine (implReg_no _ 0 w1.heap.size g lv _ (R_g.out.mono (Nat.zero_le _) (by omega)) (Nat.le_refl _) hok).mono ?_
      rintro e w2 ⟨rfl, bw2⟩
      have sw2 : w1.heap.size ≤ w2.heap.size := bw2.size
      have L_1 := Lib.hid (R_g.out.same (SameIn.below bw2 (by omega)))
      clear R_g
      have BL_2 := Lib.hid (BL.out.trans (bw2.mono (by omega)))
      clear BL bw2
      go_wp2_with fail
      refine (specReg_no _ 0 w2.heap.size g lv _ (L_1.out.mono (Nat.zero_le _) (by omega)) (Nat.le_refl _) hok).mono ?_
      rintro e w3 ⟨rfl, bw3⟩
      have sw3 : w2.heap.size ≤ w3.heap.size := bw3.size
      have L_3 := Lib.hid (L_1.out.same (SameIn.below bw3 (by omega)))
      clear L_1
      have BL_4 := Lib.hid (BL_2.out.trans (bw3.mono (by omega)))
      clear BL_2 bw3
      go_wp2
      go_ret
      exact ⟨rfl, BL_4.out⟩
    case pos =>
      have hval := hok.1
      have hlv0 := hok.2.1
      have hlv9 := hok.2.2
      have hn7 := hval.1.2
      have hn1 := hval.1.1
      have hl7 := hval.2.1.2
      have hl1 := hval.2.1.1
      have h49 := mul_le_49 hn7 hl7
      have hpos : 0 < g.n * g.len 0 := Nat.mul_pos (by omega) (by omega)
      obtain ⟨n, x, hx⟩ := pkFn_ex hval
      have hn0 := hx.pos
      have hn49 := hx.le
      obtain ⟨c, hc0, hcy, hcn, hcl, hca⟩ := hx.count (topP g.n (g.len 0) g.flat lv)
      have hca2 : mn g.flat (g.n * g.len 0) < lv → c n = rgN g.n (g.len 0) g.flat lv (g.n * g.len 0) := fun h => hca.trans (peaks_regions (fun a ha => flat_okW hval ha) h)
      obtain ⟨N, eN⟩ : ∃ N, rgN g.n (g.len 0) g.flat lv (g.n * g.len 0) = N := ⟨_, rfl⟩
      have hN49 : N ≤ 49 := by have := rgN_le g.n (g.len 0) g.flat lv (g.n * g.len 0); omega
      rw [eN] at hca2
      have HIR := Lib.hid (fun (W : World) (hi : Nat) (v : Value) (h : RdM 0 hi W v g) (hh : hi ≤ W.heap.size) => implReg_yes v 0 hi g lv N eN W h hh hok)
      have HSR := Lib.hid (fun (W : World) (hi : Nat) (v : Value) (h : RdM 0 hi W v g) (hh : hi ≤ W.heap.size) => specReg_yes v 0 hi g lv N eN W h hh hok)
      have HTP := Lib.hid (fun k (hk : k < n) => topP_n (Z := g.flat) (lv := lv) (hx.at' k hk).1)
      have HZR := Lib.hid (fun k (hk : k < n) => flat_okW hval (hx.at' k hk).1)
      have HKR := Lib.hid (fun k (hk : k < n) => keyN_range (R := g.n) (C := g.len 0) (Z := g.flat) (fun a ha => flat_okW hval ha) (hx.at' k hk).1)
      have HC0 := Lib.hid hc0
      have HCY := Lib.hid hcy
      have HCN := Lib.hid hcn
      have HCL := Lib.hid hcl
      have HX := Lib.hid hx
      obtain ⟨low, elow⟩ : ∃ low, mn g.flat (g.n * g.len 0) = low := ⟨_, rfl⟩
      rw [elow] at hca2
      have HCA := Lib.hid hca2
      have HRG := Lib.hid (fun (W : World) (hi : Nat) (v : Value) (h : RdM 0 hi W v g) (hh : hi ≤ W.heap.size) => by
        have := implGridRange_yes v 0 hi g W h hh hval
        rw [elow] at this
        exact this)
      clear hx hc0 hcy hcn hcl hca hca2 eN elow
      go_wp2_with fail
      refine (HIR.out _ w1.heap.size _ (R_g.out.mono (Nat.zero_le _) (by omega)) (Nat.le_refl _)).mono ?_
      rintro e w2 ⟨rfl, bw2⟩
      have sw2 : w1.heap.size ≤ w2.heap.size := bw2.size
      have L_1 := Lib.hid (R_g.out.same (SameIn.below bw2 (by omega)))
      clear R_g
      have BL_2 := Lib.hid (BL.out.trans (bw2.mono (by omega)))
      clear BL bw2
      go_wp2_with fail
      refine (HSR.out _ w2.heap.size _ (L_1.out.mono (Nat.zero_le _) (by omega)) (Nat.le_refl _)).mono ?_
      rintro e w3 ⟨rfl, bw3⟩
      have sw3 : w2.heap.size ≤ w3.heap.size := bw3.size
      have L_3 := Lib.hid (L_1.out.same (SameIn.below bw3 (by omega)))
      clear L_1
      have BL_4 := Lib.hid (BL_2.out.trans (bw3.mono (by omega)))
      clear BL_2 bw3
      have hTT : ((N : Int) != (N : Int)) = false := by simp
      have hT0 : decide ((N : Int) < 0) = false := by simp <;> omega
      go_wp2_with fail
      refine (HRG.out _ w3.heap.size _ (L_3.out.mono (Nat.zero_le _) (by omega)) (Nat.le_refl _)).mono ?_
      rintro e w4 ⟨rfl, bw4⟩
      have sw4 : w3.heap.size ≤ w4.heap.size := bw4.size
      have L_5 := Lib.hid (L_3.out.same (SameIn.below bw4 (by omega)))
      clear L_3
      have BL_6 := Lib.hid (BL_4.out.trans (bw4.mono (by omega)))
      clear BL_4 bw4
      go_wp2_with fail
      refine (HX.out.impl hval _ 0 w4.heap.size _ (L_5.out.mono (Nat.zero_le _) (by omega)) (Nat.le_refl _)).mono ?_
      rintro e w5 ⟨_, rfl, ⟨_, _, _, rfl⟩, ow5, bw5⟩
      have Nw5 := Lib.hid (ow5.rd)
      clear ow5
      have sw5 : w4.heap.size ≤ w5.heap.size := bw5.size
      have L_7 := Lib.hid (L_5.out.same (SameIn.below bw5 (by omega)))
      clear L_5
      have BL_8 := Lib.hid (BL_6.out.trans (bw5.mono (by omega)))
      clear BL_6 bw5
      obtain ⟨bL, oL, capL, e2, k5, _, k7, k8⟩ := Nw5.out.openN (by omega)
      simp only [Value.slice.injEq] at e2
      obtain ⟨rfl, _, rfl⟩ := e2
      have HLL := Lib.hid (fun (W : World) (hb : Below w5.heap.size w5 W) (j : Nat) (hj : j < n) => show W.cell? ⟨bL, oL + j, none⟩ = some (.int .i64 (x j : Nat)) from (hb.cell (p := ⟨bL, oL + j, none⟩) (by show bL < _; omega)).trans (k8 j hj))
      clear k8
      have HGC := Lib.hid (fun (W : World) (hb : Below w5.heap.size w5 W) => (L_7.out.same (SameIn.below hb (by omega))).mono (Nat.zero_le _) (show _ ≤ w5.heap.size by omega))
      have HHT := Lib.hid (fun (W : World) (hb : Below w5.heap.size w5 W) k (hk : k < n) => heightOf_any _ 0 w5.heap.size g (x k) W (HGC.out W hb) hval (HX.out.at' k hk).1)
      have HKE := Lib.hid (fun (W : World) (hb : Below w5.heap.size w5 W) k (hk : k < n) => implKey_n _ 0 w5.heap.size g (x k) (HX.out.at' k hk).1 W (HGC.out W hb) hb.size hval (HX.out.at' k hk).2.1)
      go_wp2
      go_loopw [11, 12] (fun s c' wr => ∃ k : Nat, k ≤ n ∧ s = .int .i64 (c k) ∧ c' = .int .i64 k ∧ Below w5.heap.size w5 wr) (fun _ c' _ => n - (intOf c').toNat)
      case atStart => exact ⟨0, Nat.zero_le _, by rw [HC0.out]; rfl, rfl, Below.refl _ _⟩
      case round =>
        obtain ⟨k, hk, rfl, rfl, hb⟩ := hrel
        have HB := Lib.hid hb
        have hsz := hb.size
        clear hb
        by_cases hlt : k < n
        · have hlt' : (k : Int) < n := by omega
          have c1 := HLL.out wr HB.out k hlt
          have HH := Lib.hid (HHT.out wr HB.out k hlt)
          have hz := HZR.out k hlt
          have hky := HKR.out k hlt
          have htp := HTP.out k hlt
          have hcy := HCY.out k hlt
          have hcn := HCN.out k hlt
          have hcl := HCL.out k
          have HK := Lib.hid (fun (W : World) (hb : Below w5.heap.size w5 W) => HKE.out W hb k hlt)
          rw [htp] at hcy hcn
          obtain ⟨X, eX⟩ : ∃ X, x k = X := ⟨_, rfl⟩
          rw [eX] at c1 HH hz hky hcy hcn
          simp only [eX] at HK
          obtain ⟨z, ez⟩ : ∃ z, g.flat X = z := ⟨_, rfl⟩
          rw [ez] at HH hz hcy hcn
          obtain ⟨y, ey⟩ : ∃ y, keyN g.n (g.len 0) g.flat X = y := ⟨_, rfl⟩
          rw [ey] at hky hcy hcn
          simp only [ey] at HK
          clear htp eX ez ey
          have c2 : ∀ q, (wr.drewN q).cell? ⟨bL, oL + k, none⟩ = some (.int .i64 (X : Nat)) := fun q => c1
          by_cases hzl : lv ≤ z
          · by_cases hyl : y < lv
            · have HCC := Lib.hid (hcy (by simp [hzl, hyl]))
              clear hcy hcn
              go_wp2_with fail
              refine HH.out.mono ?_
              rintro e w8 ⟨rfl, q8, rfl⟩
              have HB8 := Lib.hid (below_drewN HB.out q8)
              go_wp2_with fail
              refine (HK.out _ HB8.out).mono ?_
              rintro e w9 ⟨rfl, b9⟩
              have HB9 := Lib.hid (HB8.out.trans (b9.mono HB8.out.size))
              clear b9
              go_wp2
              go_roundw
              case rel => exact ⟨k + 1, hlt, by rw [HCC.out]; go_num, by go_num, HB9.out⟩
              case measure => simp [intOf]; omega
            · have HCC := Lib.hid (hcn (by simp [hyl]))
              clear hcy hcn
              go_wp2_with fail
              refine HH.out.mono ?_
              rintro e w8 ⟨rfl, q8, rfl⟩
              have HB8 := Lib.hid (below_drewN HB.out q8)
              go_wp2_with fail
              refine (HK.out _ HB8.out).mono ?_
              rintro e w9 ⟨rfl, b9⟩
              have HB9 := Lib.hid (HB8.out.trans (b9.mono HB8.out.size))
              clear b9
              go_wp2
              go_roundw
              case rel => exact ⟨k + 1, hlt, by rw [HCC.out], by go_num, HB9.out⟩
              case measure => simp [intOf]; omega
          · have HCC := Lib.hid (hcn (by simp [hzl]))
            clear hcy hcn
            go_wp2_with fail
            refine HH.out.mono ?_
            rintro e w8 ⟨rfl, q8, rfl⟩
            have HB8 := Lib.hid (below_drewN HB.out q8)
            go_wp2
            go_roundw
            case rel => exact ⟨k + 1, hlt, by rw [HCC.out], by go_num, HB8.out⟩
            case measure => simp [intOf]; omega
        · have hlt' : ¬ (k : Int) < n := by omega
          obtain rfl : k = n := by omega
          have hcl := HCL.out k
          have HBF := Lib.hid (BL_8.out.trans (HB.out.mono (by omega)))
          by_cases hll : lv ≤ low
          · have hd : decide (lv ≤ low) = true := by simp [hll]
            go_wp2
            go_ret
            exact ⟨rfl, HBF.out⟩
          · have hd : decide (lv ≤ low) = false := by simp [hll]
            have hcN := HCA.out (by omega)
            rw [hcN]
            have hNN : ((N : Int) == (N : Int)) = true := by simp
            go_wp2
            go_ret
            exact ⟨rfl, HBF.out⟩
end Go.Proofs.Ytcfeckpbjdipeaa
