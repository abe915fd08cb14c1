/- The law FnProminence of the promises: its walk. -/
import Derived.Test.YtcfeckpbjdipeaaPkX
namespace Go.Proofs.Ytcfeckpbjdipeaa
open Go.RowKit
set_option linter.unusedVariables false

set_option maxHeartbeats 4000000 in
set_option maxRecDepth 100000 in
theorem law_FnProminence (v : Value) (n : Nat) (w : World) (hv : RdB w.heap.size w v n) : Calls Try.prog 6 #[v] w (LawPost w) := by
  have HD := Lib.hid (draw_DrawPeakProminence v n w.heap.size w hv (Nat.le_refl _))
  obtain ⟨ao, cap, cb, off, Z, rfl, hc1, hc2, _⟩ := hv
  by_cases hn : 1048576 < n
  · have hn' : (1048576 : Int) < n := by omega
    go_enter Try.func6, Try.ntmps6
    go_wp2
    go_ret
    exact ⟨rfl, Below.refl _ _⟩
  · have hn' : ¬ (1048576 : Int) < n := by omega
    go_enter Try.func6, Try.ntmps6
    go_wp2_with fail
    refine HD.out.mono ?_
    rintro e w1 ⟨vg, g, i0, rfl, _, hm, hgn, hgl, hi0, bw1⟩
    obtain ⟨ag, cg, rfl⟩ := hm.shapeV
    have R_g := Lib.hid hm
    clear hm HD hgl
    have sw1 : w.heap.size ≤ w1.heap.size := bw1.size
    have BL := Lib.hid bw1
    clear bw1
    by_cases hok : g.pkB i0 = true
    case neg =>
      have hno : g.pkB i0 = false := by simpa using hok
      go_wp2_with fail
      refine (implPr_no _ 0 w1.heap.size g i0 _ (R_g.out.mono (Nat.zero_le _) (by omega)) (Nat.le_refl _) hno).mono ?_
      rintro e w2 ⟨rfl, bw2⟩
      have sw2 : w1.heap.size ≤ w2.heap.size := bw2.size
      have L_1 := Lib.hid (R_g.out.same (SameIn.below bw2 (by omega)))
      clear R_g
      have BL_2 := Lib.hid (BL.out.trans (bw2.mono (by omega)))
      clear BL bw2
      go_wp2_with fail
      refine (specPr_no _ 0 w2.heap.size g i0 _ (L_1.out.mono (Nat.zero_le _) (by omega)) (Nat.le_refl _) hno).mono ?_
      rintro e w3 ⟨rfl, bw3⟩
      have sw3 : w2.heap.size ≤ w3.heap.size := bw3.size
      have L_3 := Lib.hid (L_1.out.same (SameIn.below bw3 (by omega)))
      clear L_1
      have BL_4 := Lib.hid (BL_2.out.trans (bw3.mono (by omega)))
      clear BL_2 bw3
      go_wp2
      go_ret
      exact ⟨rfl, BL_4.out⟩
    case pos =>
      obtain ⟨hval, i, hi, rfl, hpk⟩ := pkB_yes' hok
      have hn7 := hval.1.2
      have hn1 := hval.1.1
      have hl7 := hval.2.1.2
      have hl1 := hval.2.1.1
      have h49 := mul_le_49 hn7 hl7
      have hpos : 0 < g.n * g.len 0 := Nat.mul_pos (by omega) (by omega)
      obtain ⟨n, x, hx⟩ := pkFn_ex hval
      have hn0 := hx.pos
      have hn49 := hx.le
      have hZ : ∀ x, x < g.n * g.len 0 → 0 ≤ g.flat x ∧ g.flat x ≤ 99 := fun y hy => flat_okW hval hy
      have hkf := key_first hx hval
      have hkr := keyN_range hZ hi
      have hzr := hZ i hi
      have hkt := (kyF_facts hZ hi).2.2.2.2.2.2
      have hkl : i = x 0 → keyN g.n (g.len 0) g.flat i = mn g.flat (g.n * g.len 0) ∧ g.flat i = mx g.flat (g.n * g.len 0) := fun e => by rw [e]; exact hkf
      have hRK : g.RaiseOk 1 → keyN g.n (g.len 0) (raiseG g 1).flat i = keyN g.n (g.len 0) g.flat i + 1 := fun h => by
        have e1 := keyN_at (R := g.n) (C := g.len 0) (Z := g.flat) ⟨i, hi⟩
        have e2 := keyN_at (R := g.n) (C := g.len 0) (Z := (raiseG g 1).flat) ⟨i, hi⟩
        simp only at e1 e2
        rw [e1, e2]
        exact up_key (raise_up g) hZ (fun y hy => flat_okW (g := raiseG g 1) h.2.2 hy) ⟨i, hi⟩
      have HI := Lib.hid (fun (W : World) (hi' : Nat) (v : Value) (h : RdM 0 hi' W v g) (hh : hi' ≤ W.heap.size) => implPr_n v 0 hi' g i hi W h hh hval hpk)
      have HS := Lib.hid (fun (W : World) (hi' : Nat) (v : Value) (h : RdM 0 hi' W v g) (hh : hi' ≤ W.heap.size) => specPr_n v 0 hi' g i hi W h hh hval hpk)
      have HK := Lib.hid (fun (W : World) (hi' : Nat) (v : Value) (h : RdM 0 hi' W v g) (hh : hi' ≤ W.heap.size) => implKey_n v 0 hi' g i hi W h hh hval hpk)
      have HH := Lib.hid (fun (W : World) (hi' : Nat) (v : Value) (h : RdM 0 hi' W v g) => heightOf_any v 0 hi' g i W h hval hi)
      have HR := Lib.hid (fun (W : World) (hi' : Nat) (v : Value) (h : RdM 0 hi' W v g) (hh : hi' ≤ W.heap.size) => implGridRange_yes v 0 hi' g W h hh hval)
      have HU := Lib.hid (fun (hr : g.RaiseOk 1) (W : World) (hi' : Nat) (v : Value) (h : RdM 0 hi' W v (raiseG g 1)) (hh : hi' ≤ W.heap.size) => by
        have := implPr_n v 0 hi' (raiseG g 1) i hi W h hh hr.2.2 (up_pk (raise_up g) ⟨i, hi⟩ hpk)
        rw [show keyN (raiseG g 1).n ((raiseG g 1).len 0) (raiseG g 1).flat i = keyN g.n (g.len 0) g.flat i + 1 from hRK hr, show (raiseG g 1).flat i = g.flat i + 1 from rfl] at this
        exact this)
      have HX := Lib.hid hx
      obtain ⟨z, ez⟩ : ∃ z, g.flat i = z := ⟨_, rfl⟩
      obtain ⟨y, ey⟩ : ∃ y, keyN g.n (g.len 0) g.flat i = y := ⟨_, rfl⟩
      obtain ⟨low, el⟩ : ∃ y, mn g.flat (g.n * g.len 0) = y := ⟨_, rfl⟩
      obtain ⟨high, eh⟩ : ∃ y, mx g.flat (g.n * g.len 0) = y := ⟨_, rfl⟩
      have hlr := mn_mx (Z := g.flat) hpos
      have hlo : mn g.flat (g.n * g.len 0) ≤ g.flat i := mn_leK g.flat hi
      have hhi : g.flat i ≤ mx g.flat (g.n * g.len 0) := mx_ge g.flat _ i hi
      have hl0 : 0 ≤ mn g.flat (g.n * g.len 0) := by
        obtain ⟨a, ha, ea⟩ := mn_isK g.flat hpos
        rw [ea]; exact (hZ a ha).1
      have hh9 : mx g.flat (g.n * g.len 0) ≤ 99 := mx_le (y := 99) _ (hZ 0 hpos).2 (fun a ha => (hZ a ha).2)
      simp only [ez, ey, el, eh] at HI HS HK HH HR HU hkl hkr hzr hkt hlr hlo hhi hl0 hh9
      have HKL := Lib.hid hkl
      have h11 : z + 1 - (y + 1) = z - y := by omega
      rw [h11] at HU
      obtain ⟨Q, eQ⟩ : ∃ Q, z - y = Q := ⟨_, rfl⟩
      have EQ := Lib.hid eQ
      have hQ : 0 ≤ Q ∧ Q ≤ 99 := by omega
      rw [eQ] at HI HS HU
      have hQy : Q + y = z := by omega
      clear hx hkl hRK hkf ez ey el eh hZ h11 eQ hok
      go_wp2_with fail
      refine (HI.out _ w1.heap.size _ (R_g.out.mono (Nat.zero_le _) (by omega)) (Nat.le_refl _)).mono ?_
      rintro e w2 ⟨rfl, bw2⟩
      have sw2 : w1.heap.size ≤ w2.heap.size := bw2.size
      have L_1 := Lib.hid (R_g.out.same (SameIn.below bw2 (by omega)))
      clear R_g
      have BL_2 := Lib.hid (BL.out.trans (bw2.mono (by omega)))
      clear BL bw2
      go_wp2_with fail
      refine (HS.out _ w2.heap.size _ (L_1.out.mono (Nat.zero_le _) (by omega)) (Nat.le_refl _)).mono ?_
      rintro e w3 ⟨rfl, bw3⟩
      have sw3 : w2.heap.size ≤ w3.heap.size := bw3.size
      have L_3 := Lib.hid (L_1.out.same (SameIn.below bw3 (by omega)))
      clear L_1
      have BL_4 := Lib.hid (BL_2.out.trans (bw3.mono (by omega)))
      clear BL_2 bw3
      have hTT : (Q != Q) = false := by simp
      have hT0 : decide (Q < 0) = false := by simp <;> omega
      by_cases hr : g.RaiseOk 1
      case pos =>
        go_wp2_with fail
        refine ((implGridRaise_any _ 0 w3.heap.size g 1 _ (L_3.out.mono (Nat.zero_le _) (by omega)) (Nat.le_refl _)).mono fun _ _ h => h.1 hr).mono ?_
        rintro e w4 ⟨_, rfl, ⟨_, _, _, rfl⟩, ow4, bw4⟩
        have Nw4 := Lib.hid (ow4.rd)
        clear ow4
        have sw4 : w3.heap.size ≤ w4.heap.size := bw4.size
        have L_5 := Lib.hid (L_3.out.same (SameIn.below bw4 (by omega)))
        clear L_3
        have BL_6 := Lib.hid (BL_4.out.trans (bw4.mono (by omega)))
        clear BL_4 bw4
        go_wp2_with fail
        refine (HR.out _ w4.heap.size _ (L_5.out.mono (Nat.zero_le _) (by omega)) (Nat.le_refl _)).mono ?_
        rintro e w5 ⟨rfl, bw5⟩
        have sw5 : w4.heap.size ≤ w5.heap.size := bw5.size
        have L_7 := Lib.hid (L_5.out.same (SameIn.below bw5 (by omega)))
        clear L_5
        have L_8 := Lib.hid (Nw4.out.same (SameIn.below bw5 (by omega)))
        clear Nw4
        have BL_9 := Lib.hid (BL_6.out.trans (bw5.mono (by omega)))
        clear BL_6 bw5
        go_wp2_with fail
        refine (HX.out.impl hval _ 0 w5.heap.size _ (L_7.out.mono (Nat.zero_le _) (by omega)) (Nat.le_refl _)).mono ?_
        rintro e w6 ⟨_, rfl, ⟨_, _, _, rfl⟩, ow6, bw6⟩
        have Nw6 := Lib.hid (ow6.rd)
        clear ow6
        have sw6 : w5.heap.size ≤ w6.heap.size := bw6.size
        have L_10 := Lib.hid (L_7.out.same (SameIn.below bw6 (by omega)))
        clear L_7
        have L_11 := Lib.hid (L_8.out.same (SameIn.below bw6 (by omega)))
        clear L_8
        have BL_12 := Lib.hid (BL_9.out.trans (bw6.mono (by omega)))
        clear BL_9 bw6
        obtain ⟨bL, oL, capL, e2, k5, _, k7, k8⟩ := Nw6.out.openN (by omega)
        simp only [Value.slice.injEq] at e2
        obtain ⟨rfl, _, rfl⟩ := e2
        have c0 := k8 0 hn0
        rw [Nat.add_zero] at c0
        obtain ⟨F, eF⟩ : ∃ F, x 0 = F := ⟨_, rfl⟩
        rw [eF] at c0 HKL
        have hn0' : (0 : Int) < n := by omega
        have hF : F ≤ 49 := by have := (HX.out.at' 0 hn0).1; rw [eF] at this; omega
        clear k8 eF
        go_wp2_with fail
        refine (HK.out _ w6.heap.size _ (L_10.out.mono (Nat.zero_le _) (by omega)) (Nat.le_refl _)).mono ?_
        rintro e w7 ⟨rfl, bw7⟩
        have sw7 : w6.heap.size ≤ w7.heap.size := bw7.size
        have L_13 := Lib.hid (L_10.out.same (SameIn.below bw7 (by omega)))
        clear L_10
        have L_14 := Lib.hid (L_11.out.same (SameIn.below bw7 (by omega)))
        clear L_11
        have BL_15 := Lib.hid (BL_12.out.trans (bw7.mono (by omega)))
        clear BL_12 bw7
        go_wp2_with fail
        refine (HH.out _ w7.heap.size _ (L_13.out.mono (Nat.zero_le _) (by omega))).mono ?_
        rintro e _ ⟨rfl, qw8, rfl⟩
        have bw8 := below_drewN (Below.refl w7.heap.size w7) qw8
        obtain ⟨w8, Ew8⟩ : ∃ W, w7.drewN qw8 = W := ⟨_, rfl⟩
        rw [Ew8] at bw8 ⊢
        clear Ew8
        have sw8 : w7.heap.size ≤ w8.heap.size := bw8.size
        have L_16 := Lib.hid (L_13.out.same (SameIn.below bw8 (by omega)))
        clear L_13
        have L_17 := Lib.hid (L_14.out.same (SameIn.below bw8 (by omega)))
        clear L_14
        have BL_18 := Lib.hid (BL_15.out.trans (bw8.mono (by omega)))
        clear BL_15 bw8
        go_wp2_with fail
        refine (HU.out hr _ w8.heap.size _ (L_17.out.mono (Nat.zero_le _) (by omega)) (Nat.le_refl _)).mono ?_
        rintro e w9 ⟨rfl, bw9⟩
        have sw9 : w8.heap.size ≤ w9.heap.size := bw9.size
        have L_19 := Lib.hid (L_16.out.same (SameIn.below bw9 (by omega)))
        clear L_16
        have L_20 := Lib.hid (L_17.out.same (SameIn.below bw9 (by omega)))
        clear L_17
        have BL_21 := Lib.hid (BL_18.out.trans (bw9.mono (by omega)))
        clear BL_18 bw9
        have hQQ : (Q == Q) = true := by simp
        have hzz : (z == z) = true := by simp
        by_cases hF1 : i = F
        · obtain ⟨e1, e2⟩ := HKL.out hF1
          have hb1 : ((i : Int) != (F : Int)) = false := by simp [hF1]
          have hb2 : (Q == high - low) = true := by rw [beq_iff_eq]; omega
          clear e1 e2 hF1
          go_wp2
          go_ret
          exact ⟨rfl, BL_21.out⟩
        · have hb1 : ((i : Int) != (F : Int)) = true := by rw [bne_iff_ne]; omega
          clear hF1
          go_wp2
          go_ret
          exact ⟨rfl, BL_21.out⟩
      case neg =>
        go_wp2_with fail
        refine ((implGridRaise_any _ 0 w3.heap.size g 1 _ (L_3.out.mono (Nat.zero_le _) (by omega)) (Nat.le_refl _)).mono fun _ _ h => h.2 hr).mono ?_
        rintro e w4 ⟨_, rfl, ⟨_, _, _, rfl⟩, ow4, bw4⟩
        have sw4 : w3.heap.size ≤ w4.heap.size := bw4.size
        have L_5 := Lib.hid (L_3.out.same (SameIn.below bw4 (by omega)))
        clear L_3
        have BL_6 := Lib.hid (BL_4.out.trans (bw4.mono (by omega)))
        clear BL_4 bw4
        go_wp2_with fail
        refine (HR.out _ w4.heap.size _ (L_5.out.mono (Nat.zero_le _) (by omega)) (Nat.le_refl _)).mono ?_
        rintro e w5 ⟨rfl, bw5⟩
        have sw5 : w4.heap.size ≤ w5.heap.size := bw5.size
        have L_7 := Lib.hid (L_5.out.same (SameIn.below bw5 (by omega)))
        clear L_5
        have BL_8 := Lib.hid (BL_6.out.trans (bw5.mono (by omega)))
        clear BL_6 bw5
        go_wp2_with fail
        refine (HX.out.impl hval _ 0 w5.heap.size _ (L_7.out.mono (Nat.zero_le _) (by omega)) (Nat.le_refl _)).mono ?_
        rintro e w6 ⟨_, rfl, ⟨_, _, _, rfl⟩, ow6, bw6⟩
        have Nw6 := Lib.hid (ow6.rd)
        clear ow6
        have sw6 : w5.heap.size ≤ w6.heap.size := bw6.size
        have L_9 := Lib.hid (L_7.out.same (SameIn.below bw6 (by omega)))
        clear L_7
        have BL_10 := Lib.hid (BL_8.out.trans (bw6.mono (by omega)))
        clear BL_8 bw6
        obtain ⟨bL, oL, capL, e2, k5, _, k7, k8⟩ := Nw6.out.openN (by omega)
        simp only [Value.slice.injEq] at e2
        obtain ⟨rfl, _, rfl⟩ := e2
        have c0 := k8 0 hn0
        rw [Nat.add_zero] at c0
        obtain ⟨F, eF⟩ : ∃ F, x 0 = F := ⟨_, rfl⟩
        rw [eF] at c0 HKL
        have hn0' : (0 : Int) < n := by omega
        have hF : F ≤ 49 := by have := (HX.out.at' 0 hn0).1; rw [eF] at this; omega
        clear k8 eF
        go_wp2_with fail
        refine (HK.out _ w6.heap.size _ (L_9.out.mono (Nat.zero_le _) (by omega)) (Nat.le_refl _)).mono ?_
        rintro e w7 ⟨rfl, bw7⟩
        have sw7 : w6.heap.size ≤ w7.heap.size := bw7.size
        have L_11 := Lib.hid (L_9.out.same (SameIn.below bw7 (by omega)))
        clear L_9
        have BL_12 := Lib.hid (BL_10.out.trans (bw7.mono (by omega)))
        clear BL_10 bw7
        go_wp2_with fail
        refine (HH.out _ w7.heap.size _ (L_11.out.mono (Nat.zero_le _) (by omega))).mono ?_
        rintro e _ ⟨rfl, qw8, rfl⟩
        have bw8 := below_drewN (Below.refl w7.heap.size w7) qw8
        obtain ⟨w8, Ew8⟩ : ∃ W, w7.drewN qw8 = W := ⟨_, rfl⟩
        rw [Ew8] at bw8 ⊢
        clear Ew8
        have sw8 : w7.heap.size ≤ w8.heap.size := bw8.size
        have L_13 := Lib.hid (L_11.out.same (SameIn.below bw8 (by omega)))
        clear L_11
        have BL_14 := Lib.hid (BL_12.out.trans (bw8.mono (by omega)))
        clear BL_12 bw8
        have hQQ : (Q == Q) = true := by simp
        have hzz : (z == z) = true := by simp
        by_cases hF1 : i = F
        · obtain ⟨e1, e2⟩ := HKL.out hF1
          have hb1 : ((i : Int) != (F : Int)) = false := by simp [hF1]
          have hb2 : (Q == high - low) = true := by rw [beq_iff_eq]; omega
          clear e1 e2 hF1
          go_wp2
          go_ret
          exact ⟨rfl, BL_14.out⟩
        · have hb1 : ((i : Int) != (F : Int)) = true := by rw [bne_iff_ne]; omega
          clear hF1
          go_wp2
          go_ret
          exact ⟨rfl, BL_14.out⟩
end Go.Proofs.Ytcfeckpbjdipeaa
