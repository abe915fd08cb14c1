/- The law FnIsland of the promises: its walk. -/
import Derived.Test.YtcfeckpbjdipeaaPkX
namespace Go.Proofs.Ytcfeckpbjdipeaa
open Go.RowKit
set_option linter.unusedVariables false

set_option maxHeartbeats 4000000 in
set_option maxRecDepth 100000 in
theorem law_FnIsland (v : Value) (n : Nat) (w : World) (hv : RdB w.heap.size w v n) : Calls Try.prog 8 #[v] w (LawPost w) := by
  have HD := Lib.hid (draw_DrawPeakIsland v n w.heap.size w hv (Nat.le_refl _))
  obtain ⟨ao, cap, cb, off, Z, rfl, hc1, hc2, _⟩ := hv
  by_cases hn : 1048576 < n
  · have hn' : (1048576 : Int) < n := by omega
    go_enter Try.func8, Try.ntmps8
    go_wp2
    go_ret
    exact ⟨rfl, Below.refl _ _⟩
  · have hn' : ¬ (1048576 : Int) < n := by omega
    go_enter Try.func8, Try.ntmps8
    go_wp2_with fail
    refine HD.out.mono ?_
    rintro e w1 ⟨vg, g, lv, s0, rfl, _, hm, hgn, hgl, hlv, hs0, bw1⟩
    obtain ⟨ag, cg, rfl⟩ := hm.shapeV
    have R_g := Lib.hid hm
    clear hm HD hgl
    have sw1 : w.heap.size ≤ w1.heap.size := bw1.size
    have BL := Lib.hid bw1
    clear bw1
    by_cases hok : g.IlOk lv s0
    case neg =>
      go_wp2_with fail
      refine (implIsl_no _ 0 w1.heap.size g lv s0 _ (R_g.out.mono (Nat.zero_le _) (by omega)) (Nat.le_refl _) hok).mono ?_
      rintro e w2 ⟨rfl, bw2⟩
      have sw2 : w1.heap.size ≤ w2.heap.size := bw2.size
      have L_1 := Lib.hid (R_g.out.same (SameIn.below bw2 (by omega)))
      clear R_g
      have BL_2 := Lib.hid (BL.out.trans (bw2.mono (by omega)))
      clear BL bw2
      go_wp2_with fail
      refine (specIsl_no _ 0 w2.heap.size g lv s0 _ (L_1.out.mono (Nat.zero_le _) (by omega)) (Nat.le_refl _) hok).mono ?_
      rintro e w3 ⟨rfl, bw3⟩
      have sw3 : w2.heap.size ≤ w3.heap.size := bw3.size
      have L_3 := Lib.hid (L_1.out.same (SameIn.below bw3 (by omega)))
      clear L_1
      have BL_4 := Lib.hid (BL_2.out.trans (bw3.mono (by omega)))
      clear BL_2 bw3
      go_wp2
      go_ret
      exact ⟨rfl, BL_4.out⟩
    case pos =>
      have hval := hok.1.1
      have hlv0 := hok.1.2.1
      have hlv9 := hok.1.2.2
      have hn7 := hval.1.2
      have hn1 := hval.1.1
      have hl7 := hval.2.1.2
      have hl1 := hval.2.1.1
      have h49 := mul_le_49 hn7 hl7
      have hpos : 0 < g.n * g.len 0 := Nat.mul_pos (by omega) (by omega)
      obtain ⟨s, rfl⟩ := Int.eq_ofNat_of_zero_le hok.2.1
      obtain ⟨N, p, S, hS⟩ := ilSum_ex hval lv
      have hsN : s < N := by have := hok.2.2; rw [hS.num] at this; omega
      have hN49 := hS.le
      obtain ⟨A, eA⟩ : ∃ A, cntZ (numZ g.n (g.len 0) g.flat lv) s (g.n * g.len 0) = A := ⟨_, rfl⟩
      have hpA : p s ≤ A := by rw [← eA, ← hS.isl]; exact pcN_area _ _ _ _ _ _
      have hA49 : A ≤ 49 := by rw [← eA]; have := cntZ_le (numZ g.n (g.len 0) g.flat lv) s (g.n * g.len 0); omega
      obtain ⟨n, x, hx⟩ := pkFn_ex hval
      have hn0 := hx.pos
      have hn49 := hx.le
      obtain ⟨c, hc0, hcy, hcn, hcl, hca⟩ := hx.count (fun y => decide (lv ≤ g.flat y))
      have hca2 : c n = S N := hca.trans hS.all.symm
      have HOK := Lib.hid (fun (k : Nat) (hk : k < N) => show g.IlOk lv k from ⟨hok.1, by omega, by rw [hS.num]; omega⟩)
      have HIS := Lib.hid (fun (k : Nat) (hk : k < N) (W : World) (hi : Nat) (v : Value) (h : RdM 0 hi W v g) (hh : hi ≤ W.heap.size) => implIsl_yes v 0 hi g lv k (p k) (hS.isl k) W h hh (HOK.out k hk))
      have HSS := Lib.hid (fun (k : Nat) (hk : k < N) (W : World) (hi : Nat) (v : Value) (h : RdM 0 hi W v g) (hh : hi ≤ W.heap.size) => specIsl_yes v 0 hi g lv k (p k) (hS.isl k) W h hh (HOK.out k hk))
      have HAR := Lib.hid (fun (W : World) (hi : Nat) (v : Value) (h : RdM 0 hi W v g) (hh : hi ≤ W.heap.size) => implArea_yes v 0 hi g lv s A eA W h hh (HOK.out s hsN))
      have HRE := Lib.hid (fun (W : World) (hi : Nat) (v : Value) (h : RdM 0 hi W v g) (hh : hi ≤ W.heap.size) => implReg_yes v 0 hi g lv N hS.num W h hh hok.1)
      have HZR := Lib.hid (fun k (hk : k < n) => flat_okW hval (hx.at' k hk).1)
      have HP := Lib.hid hS.pos
      have HST := Lib.hid hS.step
      have HTO := Lib.hid hS.top
      have HS0 := Lib.hid hS.zero
      have HC0 := Lib.hid hc0
      have HCY := Lib.hid hcy
      have HCN := Lib.hid hcn
      have HCL := Lib.hid hcl
      have HCA := Lib.hid hca2
      have HX := Lib.hid hx
      have HPs := Lib.hid (hS.pos s hsN)
      have HPA := Lib.hid hpA
      clear hx hc0 hcy hcn hcl hca hca2 eA hS hok hpA
      obtain ⟨P, eP⟩ : ∃ P, p s = P := ⟨_, rfl⟩
      have hI1 := HIS.out s hsN
      have hS1 := HSS.out s hsN
      have hP1 := HPs.out
      have hP2 := HPA.out
      rw [eP] at hP1 hP2
      simp only [eP] at hI1 hS1
      have HI1 := Lib.hid hI1
      have HS1 := Lib.hid hS1
      clear eP hI1 hS1
      go_wp2_with fail
      refine (HI1.out _ w1.heap.size _ (R_g.out.mono (Nat.zero_le _) (by omega)) (Nat.le_refl _)).mono ?_
      rintro e w2 ⟨rfl, bw2⟩
      have sw2 : w1.heap.size ≤ w2.heap.size := bw2.size
      have L_1 := Lib.hid (R_g.out.same (SameIn.below bw2 (by omega)))
      clear R_g
      have BL_2 := Lib.hid (BL.out.trans (bw2.mono (by omega)))
      clear BL bw2
      go_wp2_with fail
      refine (HS1.out _ w2.heap.size _ (L_1.out.mono (Nat.zero_le _) (by omega)) (Nat.le_refl _)).mono ?_
      rintro e w3 ⟨rfl, bw3⟩
      have sw3 : w2.heap.size ≤ w3.heap.size := bw3.size
      have L_3 := Lib.hid (L_1.out.same (SameIn.below bw3 (by omega)))
      clear L_1
      have BL_4 := Lib.hid (BL_2.out.trans (bw3.mono (by omega)))
      clear BL_2 bw3
      have hTT : ((P : Int) != (P : Int)) = false := by simp
      have hT0 : decide ((P : Int) < 0) = false := by simp <;> omega
      go_wp2_with fail
      refine (HRE.out _ w3.heap.size _ (L_3.out.mono (Nat.zero_le _) (by omega)) (Nat.le_refl _)).mono ?_
      rintro e w4 ⟨rfl, bw4⟩
      have sw4 : w3.heap.size ≤ w4.heap.size := bw4.size
      have L_5 := Lib.hid (L_3.out.same (SameIn.below bw4 (by omega)))
      clear L_3
      have BL_6 := Lib.hid (BL_4.out.trans (bw4.mono (by omega)))
      clear BL_4 bw4
      have HGC := Lib.hid (fun (W : World) (hb : Below w4.heap.size w4 W) => (L_5.out.same (SameIn.below hb (by omega))).mono (Nat.zero_le _) (show _ ≤ w4.heap.size by omega))
      go_wp2
      go_loopw [8, 10] (fun a c' wr => ∃ k : Nat, k ≤ N ∧ a = .int .i64 (S k) ∧ c' = .int .i64 k ∧ Below w4.heap.size w4 wr) (fun _ c' _ => N - (intOf c').toNat)
      case atStart => exact ⟨0, Nat.zero_le _, by rw [HS0.out]; rfl, rfl, Below.refl _ _⟩
      case round =>
        obtain ⟨k, hk, rfl, rfl, hb⟩ := hrel
        have HB := Lib.hid hb
        have hsz := hb.size
        clear hb
        by_cases hlt : k < N
        · have hlt' : (k : Int) < N := by omega
          have hst := HST.out k hlt
          have hto := HTO.out k
          have hpk := HP.out k hlt
          have HC := Lib.hid (HIS.out k hlt wr w4.heap.size _ (HGC.out _ HB.out) hsz)
          obtain ⟨y, ey⟩ : ∃ y, p k = y := ⟨_, rfl⟩
          rw [ey] at HC hst hpk
          have HST2 := Lib.hid hst
          clear hst ey
          go_wp2_with fail
          refine HC.out.mono ?_
          rintro e w8 ⟨rfl, b8⟩
          have HB8 := Lib.hid (HB.out.trans (b8.mono hsz))
          clear b8
          go_wp2
          go_roundw
          case rel => exact ⟨k + 1, hlt, by rw [HST2.out]; go_num, by go_num, HB8.out⟩
          case measure => simp [intOf]; omega
        · have hlt' : ¬ (k : Int) < N := by omega
          obtain rfl : k = N := by omega
          have BLA := Lib.hid (BL_6.out.trans (HB.out.mono (by omega)))
          have HGA := HGC.out wr HB.out
          have hto := HTO.out k
          go_wp2_with fail
          refine (HX.out.impl hval _ 0 wr.heap.size _ (HGA.mono (Nat.zero_le _) hsz) (Nat.le_refl _)).mono ?_
          rintro e wp ⟨_, rfl, ⟨_, _, _, rfl⟩, owp, bwp⟩
          obtain ⟨bL, oL, capL, e2, k5, _, k7, k8⟩ := owp.rd.openN (by omega)
          simp only [Value.slice.injEq] at e2
          obtain ⟨rfl, _, rfl⟩ := e2
          have HLL := Lib.hid (fun (W : World) (hb : Below wp.heap.size wp W) (j : Nat) (hj : j < n) => show W.cell? ⟨bL, oL + j, none⟩ = some (.int .i64 (x j : Nat)) from (hb.cell (p := ⟨bL, oL + j, none⟩) (by show bL < _; omega)).trans (k8 j hj))
          have HGP := Lib.hid (fun (W : World) (hb : Below wp.heap.size wp W) => ((HGA.same (SameIn.below bwp hsz)).same (SameIn.below hb (by have := bwp.size; omega))).mono (Nat.zero_le 0) (show _ ≤ wp.heap.size by have := bwp.size; omega))
          have BLP := Lib.hid (BLA.out.trans (bwp.mono (by omega)))
          have hswp := bwp.size
          have HHT := Lib.hid (fun (W : World) (hb : Below wp.heap.size wp W) k (hk : k < n) => heightOf_any _ 0 wp.heap.size g (x k) W (HGP.out W hb) hval (HX.out.at' k hk).1)
          clear k8 owp bwp HGA
          go_wp2
          go_loopw [12, 13] (fun a c' wr => ∃ k : Nat, k ≤ n ∧ a = .int .i64 (c k) ∧ c' = .int .i64 k ∧ Below wp.heap.size wp wr) (fun _ c' _ => n - (intOf c').toNat)
          case atStart => exact ⟨0, Nat.zero_le _, by rw [HC0.out]; rfl, rfl, Below.refl _ _⟩
          case round =>
            obtain ⟨q, hq, rfl, rfl, hb⟩ := hrel
            have HB2 := Lib.hid hb
            have hsz2 := hb.size
            clear hb
            by_cases hlt2 : q < n
            · have hlt2' : (q : Int) < n := by omega
              have c1 := HLL.out wr HB2.out q hlt2
              have HH := Lib.hid (HHT.out wr HB2.out q hlt2)
              have hz := HZR.out q hlt2
              have hcy := HCY.out q hlt2
              have hcn := HCN.out q hlt2
              have hcl := HCL.out q
              obtain ⟨X, eX⟩ : ∃ X, x q = X := ⟨_, rfl⟩
              rw [eX] at c1 HH hz hcy hcn
              obtain ⟨z, ez⟩ : ∃ z, g.flat X = z := ⟨_, rfl⟩
              rw [ez] at HH hz hcy hcn
              clear eX ez
              by_cases hzl : lv ≤ z
              · have HCC := Lib.hid (hcy (by simp [hzl]))
                clear hcy hcn
                go_wp2_with fail
                refine HH.out.mono ?_
                rintro e w8 ⟨rfl, q8, rfl⟩
                have HB8 := Lib.hid (below_drewN HB2.out q8)
                go_wp2
                go_roundw
                case rel => exact ⟨q + 1, hlt2, by rw [HCC.out]; go_num, by go_num, HB8.out⟩
                case measure => simp [intOf]; omega
              · have HCC := Lib.hid (hcn (by simp [hzl]))
                clear hcy hcn
                go_wp2_with fail
                refine HH.out.mono ?_
                rintro e w8 ⟨rfl, q8, rfl⟩
                have HB8 := Lib.hid (below_drewN HB2.out q8)
                go_wp2
                go_roundw
                case rel => exact ⟨q + 1, hlt2, by rw [HCC.out], by go_num, HB8.out⟩
                case measure => simp [intOf]; omega
            · have hlt2' : ¬ (q : Int) < n := by omega
              obtain rfl : q = n := by omega
              have hca := HCA.out
              rw [hca]
              have hnn : ((S k : Int) == (S k : Int)) = true := by simp
              have hp1 : (1 : Int) ≤ P := by omega
              have hpA : (P : Int) ≤ A := by omega
              go_wp2_with fail
              refine (HAR.out wr wp.heap.size _ (HGP.out wr HB2.out) hsz2).mono ?_
              rintro e w9 ⟨rfl, b9⟩
              have HBF := Lib.hid (BLP.out.trans ((HB2.out.trans (b9.mono hsz2)).mono (by omega)))
              clear b9
              go_wp2
              go_ret
              exact ⟨rfl, HBF.out⟩
end Go.Proofs.Ytcfeckpbjdipeaa
