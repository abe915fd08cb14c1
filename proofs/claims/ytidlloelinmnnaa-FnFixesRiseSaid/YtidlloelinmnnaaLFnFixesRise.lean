/- The law FnFixesRise of the promises: its walk. -/
import Derived.Test.YtidlloelinmnnaaFtP
import Derived.Test.YtidlloelinmnnaaDrawFy
namespace Go.Proofs.Ytidlloelinmnnaa
open Go.RowKit
set_option linter.unusedVariables false

set_option maxHeartbeats 4000000 in
set_option maxRecDepth 100000 in
theorem law_FnFixesRise (v : Value) (n : Nat) (vm : Value) (nm : Nat) (w : World) (hv : RdB w.heap.size w v n) (hvm : RdB w.heap.size w vm nm) : Calls Try.prog 11 #[v, vm] w (LawPost w) := by
  have HD := Lib.hid (draw_DrawFixesRise v n w.heap.size w hv (Nat.le_refl _))
  obtain ⟨ao, cap, cb, off, Z, rfl, hc1, hc2, _⟩ := hv
  obtain ⟨ao2, cap2, cb2, off2, Z2, rfl, hd1, hd2, _⟩ := hvm
  by_cases hn : 1048576 < n
  · have hn' : (1048576 : Int) < n := by omega
    go_enter Try.func11, Try.ntmps11
    go_wp2
    go_ret
    exact ⟨rfl, Below.refl _ _⟩
  by_cases hm : 1048576 < nm
  · have hn' : ¬ (1048576 : Int) < n := by omega
    have hm' : (1048576 : Int) < nm := by omega
    go_enter Try.func11, Try.ntmps11
    go_wp2
    go_ret
    exact ⟨rfl, Below.refl _ _⟩
  · have hn' : ¬ (1048576 : Int) < n := by omega
    have hm' : ¬ (1048576 : Int) < nm := by omega
    go_enter Try.func11, Try.ntmps11
    go_wp2_with fail
    refine HD.out.mono ?_
    rintro e w1 ⟨vg, g, vu, n0, z0, rfl, _, hsb, hm, ht, hgn, hgl, hm6, bw1⟩
    obtain ⟨bg, og, cg, rfl⟩ := hm.shape (by omega)
    obtain ⟨ua, uc, rfl⟩ := ht.shape
    have R_g := Lib.hid hm
    have R_u := Lib.hid ht
    have HGL := Lib.hid hgl
    obtain ⟨hgn1, hgn5⟩ := hgn
    have hcp : n0 ≤ uc ∧ uc ≤ 9223372036854775807 := by obtain ⟨_, _, _, _, he, q1, q2, _⟩ := ht; simp only [Value.slice.injEq] at he; omega
    clear hm ht hgl HD
    have sw1 : w.heap.size ≤ w1.heap.size := bw1.size
    have BL := Lib.hid bw1
    clear bw1
    by_cases hok : FxOk g n0 z0
    case neg =>
      have HRF := Lib.hid hok
      go_wp2_with fail
      refine (implRise_no _ _ 0 w1.heap.size n0 g z0 _ (R_g.out.mono (Nat.zero_le _) (by omega)) (R_u.out.mono (Nat.zero_le _) (by omega)) (Nat.le_refl _) (by omega) HRF.out).mono ?_
      rintro e w2 ⟨rfl, bw2⟩
      have sw2 : w1.heap.size ≤ w2.heap.size := bw2.size
      have L_1 := Lib.hid (R_g.out.same (SameIn.below bw2 (by omega)))
      clear R_g
      have L_2 := Lib.hid (R_u.out.same (SameIn.below bw2 (by omega)))
      clear R_u
      have BL_3 := Lib.hid (BL.out.trans (bw2.mono (by omega)))
      clear BL bw2
      go_wp2_with fail
      refine (specRise_no _ _ 0 w2.heap.size n0 g z0 _ (L_1.out.mono (Nat.zero_le _) (by omega)) (L_2.out.mono (Nat.zero_le _) (by omega)) (Nat.le_refl _) (by omega) HRF.out).mono ?_
      rintro e w3 ⟨rfl, bw3⟩
      have sw3 : w2.heap.size ≤ w3.heap.size := bw3.size
      have L_4 := Lib.hid (L_1.out.same (SameIn.below bw3 (by omega)))
      clear L_1
      have L_5 := Lib.hid (L_2.out.same (SameIn.below bw3 (by omega)))
      clear L_2
      have BL_6 := Lib.hid (BL_3.out.trans (bw3.mono (by omega)))
      clear BL_3 bw3
      go_wp2
      go_ret
      exact ⟨rfl, BL_6.out⟩
    case pos =>
      obtain ⟨k, ek⟩ : ∃ k, nm % (n0 + 1) = k := ⟨_, rfl⟩
      have hk : k ≤ n0 := by rw [← ek]; exact Nat.lt_succ_iff.1 (Nat.mod_lt nm (Nat.succ_pos n0))
      have hmod : (nm : Int) % ((n0 : Int) + 1) = k := by rw [← ek, Int.natCast_emod]; rfl
      have hmod2 : (nm : Int).tmod ((n0 : Int) + 1) = k := by rw [Int.tmod_eq_emod_of_nonneg (by omega)]; exact hmod
      have hk1 : (k : Int) ≤ n0 := by omega
      have hk2 : (k : Int) ≤ uc := by omega
      have hk3 : (n0 : Int) ≤ uc := by omega
      have hk4 : k ≤ uc := by omega
      have hsub : n0 - k ≤ 6 := by omega
      clear ek
      have HPT := Lib.hid (pt_ok hok hk)
      have HPR := Lib.hid (pt_rest hok hk)
      have HRS := Lib.hid (pt_ri hok hk)
      obtain ⟨hr1, hr2⟩ := ri_rng hok
      have hr3 := ri_rng (pt_ok hok hk)
      have hr4 := ri_rng (pt_rest hok hk)
      have HSF := Lib.hid (sh_fx hok)
      have HSR := Lib.hid (ri_shE hok)
      have hle := sh_le hok
      have HC1 := Lib.hid (fun v u lo hi w h1 h2 h3 h4 => implRise_yes v u lo hi n0 g z0 w h1 h2 h3 h4 hok)
      have HC2 := Lib.hid (fun v u lo hi w h1 h2 h3 h4 => specRise_yes v u lo hi n0 g z0 w h1 h2 h3 h4 hok)
      have HC3 := Lib.hid (fun v u lo hi w h1 h2 h3 h4 => implShort_yes v u lo hi n0 g z0 w h1 h2 h3 h4 hok)
      obtain ⟨L, eL⟩ : ∃ L, shL g n0 z0 = L := ⟨_, rfl⟩
      rw [eL] at HSF HSR hle HC3
      obtain ⟨A, eA⟩ : ∃ A, riE g n0 z0 = A := ⟨_, rfl⟩
      rw [eA] at HRS hr1 hr2 HSR HC1 HC2
      obtain ⟨X, eX⟩ : ∃ X, riE g k z0 = X := ⟨_, rfl⟩
      obtain ⟨Y, eY⟩ : ∃ Y, riE (exG g k z0) (n0 - k) (dpZ z0 k) = Y := ⟨_, rfl⟩
      rw [eX] at HRS hr3
      rw [eY] at HRS hr4
      have hXY : X + Y = A := HRS.out
      have hX1 : -600 ≤ X ∧ X ≤ 600 := by omega
      have hY1 : -600 ≤ Y ∧ Y ≤ 600 := by omega
      have hq1 : (X + Y == A) = true := by simp; omega
      have hq2 : (A == A) = true := by simp
      have hq3 : (A != A) = false := by simp
      have EX := Lib.hid eX
      have EY := Lib.hid eY
      have hL6 : L.length ≤ 6 := by omega
      clear eL eA eX eY HRS hXY hr3 hr4 hr1 hr2
      clear hok
      rcases hsb with hsb | ⟨ub, uo, ul, uc', hsb⟩
      · simp only [Value.slice.injEq] at hsb
        obtain ⟨rfl, rfl, rfl⟩ := hsb
        obtain rfl : k = 0 := by omega
        go_wp2_with fail
        refine (HC1.out _ _ 0 w1.heap.size _ (R_g.out.mono (Nat.zero_le _) (by omega)) (R_u.out.mono (Nat.zero_le _) (by omega)) (Nat.le_refl _) (by omega)).mono ?_
        rintro e w2 ⟨rfl, bw2⟩
        have sw2 : w1.heap.size ≤ w2.heap.size := bw2.size
        have L_1 := Lib.hid (R_g.out.same (SameIn.below bw2 (by omega)))
        clear R_g
        have L_2 := Lib.hid (R_u.out.same (SameIn.below bw2 (by omega)))
        clear R_u
        have BL_3 := Lib.hid (BL.out.trans (bw2.mono (by omega)))
        clear BL bw2
        go_wp2_with fail
        refine (HC2.out _ _ 0 w2.heap.size _ (L_1.out.mono (Nat.zero_le _) (by omega)) (L_2.out.mono (Nat.zero_le _) (by omega)) (Nat.le_refl _) (by omega)).mono ?_
        rintro e w3 ⟨rfl, bw3⟩
        have sw3 : w2.heap.size ≤ w3.heap.size := bw3.size
        have L_4 := Lib.hid (L_1.out.same (SameIn.below bw3 (by omega)))
        clear L_1
        have L_5 := Lib.hid (L_2.out.same (SameIn.below bw3 (by omega)))
        clear L_2
        have BL_6 := Lib.hid (BL_3.out.trans (bw3.mono (by omega)))
        clear BL_3 bw3
        go_wp2_with fail
        refine (implDo_yes _ _ 0 w3.heap.size 0 g z0 _ (L_4.out.mono (Nat.zero_le _) (by omega)) (RdT.take (L_5.out.mono (Nat.zero_le _) (by omega)) (by omega)) (Nat.le_refl _) (by omega) HPT.out).mono ?_
        rintro e w4 ⟨r_7, rfl, ⟨_, _, _, rfl⟩, ow4, bw4⟩
        have Nw4 := Lib.hid (ow4.rd)
        clear ow4
        have sw4 : w3.heap.size ≤ w4.heap.size := bw4.size
        have L_8 := Lib.hid (L_4.out.same (SameIn.below bw4 (by omega)))
        clear L_4
        have L_9 := Lib.hid (L_5.out.same (SameIn.below bw4 (by omega)))
        clear L_5
        have BL_10 := Lib.hid (BL_6.out.trans (bw4.mono (by omega)))
        clear BL_6 bw4
        go_wp2_with fail
        refine ((implRise_yes _ _ 0 w4.heap.size 0 g z0 _ (L_8.out.mono (Nat.zero_le _) (by omega)) (RdT.take (L_9.out.mono (Nat.zero_le _) (by omega)) (by omega)) (Nat.le_refl _) (by omega) HPT.out).mono (fun _ _ h => by rw [EX.out] at h; exact h)).mono ?_
        rintro e w5 ⟨rfl, bw5⟩
        have sw5 : w4.heap.size ≤ w5.heap.size := bw5.size
        have L_11 := Lib.hid (L_8.out.same (SameIn.below bw5 (by omega)))
        clear L_8
        have L_12 := Lib.hid (L_9.out.same (SameIn.below bw5 (by omega)))
        clear L_9
        have L_13 := Lib.hid (Nw4.out.same (SameIn.below bw5 (by omega)))
        clear Nw4
        have BL_14 := Lib.hid (BL_10.out.trans (bw5.mono (by omega)))
        clear BL_10 bw5
        have hz0 : 0 - 0 = 0 := Nat.sub_self _
        rw [hz0] at HPR EY
        go_wp2_with fail
        refine ((implRise_yes _ _ 0 w5.heap.size 0 (exG g 0 z0) (dpZ z0 0) _ (L_13.out.mono (Nat.zero_le _) (by omega)) (RdT.dropE (by omega)) (Nat.le_refl _) (by omega) HPR.out).mono (fun _ _ h => by rw [EY.out] at h; exact h)).mono ?_
        rintro e w6 ⟨rfl, bw6⟩
        have sw6 : w5.heap.size ≤ w6.heap.size := bw6.size
        have L_15 := Lib.hid (L_11.out.same (SameIn.below bw6 (by omega)))
        clear L_11
        have L_16 := Lib.hid (L_12.out.same (SameIn.below bw6 (by omega)))
        clear L_12
        have L_17 := Lib.hid (L_13.out.same (SameIn.below bw6 (by omega)))
        clear L_13
        have BL_18 := Lib.hid (BL_14.out.trans (bw6.mono (by omega)))
        clear BL_14 bw6
        go_wp2_with fail
        refine (HC3.out _ _ 0 w6.heap.size _ (L_15.out.mono (Nat.zero_le _) (by omega)) (L_16.out.mono (Nat.zero_le _) (by omega)) (Nat.le_refl _) (by omega)).mono ?_
        rintro e w7 ⟨r_19, rfl, _, ow7, bw7⟩
        obtain ⟨a_s, c_s, rfl⟩ := ow7.shape
        have Nw7 := Lib.hid ow7
        clear ow7
        have sw7 : w6.heap.size ≤ w7.heap.size := bw7.size
        have L_20 := Lib.hid (L_15.out.same (SameIn.below bw7 (by omega)))
        clear L_15
        have L_21 := Lib.hid (L_16.out.same (SameIn.below bw7 (by omega)))
        clear L_16
        have L_22 := Lib.hid (L_17.out.same (SameIn.below bw7 (by omega)))
        clear L_17
        have BL_23 := Lib.hid (BL_18.out.trans (bw7.mono (by omega)))
        clear BL_18 bw7
        go_wp2_with fail
        refine ((implRise_yes _ _ 0 w7.heap.size L.length g (fzZ L) _ (L_20.out.mono (Nat.zero_le _) (by omega)) (Nw7.out.mono (Nat.zero_le _) (by omega)) (Nat.le_refl _) (by omega) HSF.out).mono (fun _ _ h => by rw [HSR.out] at h; exact h)).mono ?_
        rintro e w8 ⟨rfl, bw8⟩
        have sw8 : w7.heap.size ≤ w8.heap.size := bw8.size
        have L_24 := Lib.hid (L_20.out.same (SameIn.below bw8 (by omega)))
        clear L_20
        have L_25 := Lib.hid (L_21.out.same (SameIn.below bw8 (by omega)))
        clear L_21
        have L_26 := Lib.hid (L_22.out.same (SameIn.below bw8 (by omega)))
        clear L_22
        have L_27 := Lib.hid (Nw7.out.same (SameIn.below bw8 (by omega)))
        clear Nw7
        have BL_28 := Lib.hid (BL_23.out.trans (bw8.mono (by omega)))
        clear BL_23 bw8
        go_wp2
        go_ret
        exact ⟨rfl, BL_28.out⟩
      simp only [Value.slice.injEq] at hsb
      obtain ⟨rfl, rfl, rfl⟩ := hsb
      by_cases hce : uc = k
      · have e1 : n0 = k := by omega
        have e2 : n0 = uc := by omega
        subst e1
        subst e2
        go_wp2_with fail
        refine (HC1.out _ _ 0 w1.heap.size _ (R_g.out.mono (Nat.zero_le _) (by omega)) (R_u.out.mono (Nat.zero_le _) (by omega)) (Nat.le_refl _) (by omega)).mono ?_
        rintro e w2 ⟨rfl, bw2⟩
        have sw2 : w1.heap.size ≤ w2.heap.size := bw2.size
        have L_1 := Lib.hid (R_g.out.same (SameIn.below bw2 (by omega)))
        clear R_g
        have L_2 := Lib.hid (R_u.out.same (SameIn.below bw2 (by omega)))
        clear R_u
        have BL_3 := Lib.hid (BL.out.trans (bw2.mono (by omega)))
        clear BL bw2
        go_wp2_with fail
        refine (HC2.out _ _ 0 w2.heap.size _ (L_1.out.mono (Nat.zero_le _) (by omega)) (L_2.out.mono (Nat.zero_le _) (by omega)) (Nat.le_refl _) (by omega)).mono ?_
        rintro e w3 ⟨rfl, bw3⟩
        have sw3 : w2.heap.size ≤ w3.heap.size := bw3.size
        have L_4 := Lib.hid (L_1.out.same (SameIn.below bw3 (by omega)))
        clear L_1
        have L_5 := Lib.hid (L_2.out.same (SameIn.below bw3 (by omega)))
        clear L_2
        have BL_6 := Lib.hid (BL_3.out.trans (bw3.mono (by omega)))
        clear BL_3 bw3
        go_wp2_with fail
        refine (implDo_yes _ _ 0 w3.heap.size n0 g z0 _ (L_4.out.mono (Nat.zero_le _) (by omega)) (RdT.take (L_5.out.mono (Nat.zero_le _) (by omega)) (by omega)) (Nat.le_refl _) (by omega) HPT.out).mono ?_
        rintro e w4 ⟨r_7, rfl, ⟨_, _, _, rfl⟩, ow4, bw4⟩
        have Nw4 := Lib.hid (ow4.rd)
        clear ow4
        have sw4 : w3.heap.size ≤ w4.heap.size := bw4.size
        have L_8 := Lib.hid (L_4.out.same (SameIn.below bw4 (by omega)))
        clear L_4
        have L_9 := Lib.hid (L_5.out.same (SameIn.below bw4 (by omega)))
        clear L_5
        have BL_10 := Lib.hid (BL_6.out.trans (bw4.mono (by omega)))
        clear BL_6 bw4
        go_wp2_with fail
        refine ((implRise_yes _ _ 0 w4.heap.size n0 g z0 _ (L_8.out.mono (Nat.zero_le _) (by omega)) (RdT.take (L_9.out.mono (Nat.zero_le _) (by omega)) (by omega)) (Nat.le_refl _) (by omega) HPT.out).mono (fun _ _ h => by rw [EX.out] at h; exact h)).mono ?_
        rintro e w5 ⟨rfl, bw5⟩
        have sw5 : w4.heap.size ≤ w5.heap.size := bw5.size
        have L_11 := Lib.hid (L_8.out.same (SameIn.below bw5 (by omega)))
        clear L_8
        have L_12 := Lib.hid (L_9.out.same (SameIn.below bw5 (by omega)))
        clear L_9
        have L_13 := Lib.hid (Nw4.out.same (SameIn.below bw5 (by omega)))
        clear Nw4
        have BL_14 := Lib.hid (BL_10.out.trans (bw5.mono (by omega)))
        clear BL_10 bw5
        have hz0 : n0 - n0 = 0 := Nat.sub_self _
        rw [hz0] at HPR EY
        go_wp2_with fail
        refine ((implRise_yes _ _ 0 w5.heap.size 0 (exG g n0 z0) (dpZ z0 n0) _ (L_13.out.mono (Nat.zero_le _) (by omega)) (RdT.dropE (by omega)) (Nat.le_refl _) (by omega) HPR.out).mono (fun _ _ h => by rw [EY.out] at h; exact h)).mono ?_
        rintro e w6 ⟨rfl, bw6⟩
        have sw6 : w5.heap.size ≤ w6.heap.size := bw6.size
        have L_15 := Lib.hid (L_11.out.same (SameIn.below bw6 (by omega)))
        clear L_11
        have L_16 := Lib.hid (L_12.out.same (SameIn.below bw6 (by omega)))
        clear L_12
        have L_17 := Lib.hid (L_13.out.same (SameIn.below bw6 (by omega)))
        clear L_13
        have BL_18 := Lib.hid (BL_14.out.trans (bw6.mono (by omega)))
        clear BL_14 bw6
        go_wp2_with fail
        refine (HC3.out _ _ 0 w6.heap.size _ (L_15.out.mono (Nat.zero_le _) (by omega)) (L_16.out.mono (Nat.zero_le _) (by omega)) (Nat.le_refl _) (by omega)).mono ?_
        rintro e w7 ⟨r_19, rfl, _, ow7, bw7⟩
        obtain ⟨a_s, c_s, rfl⟩ := ow7.shape
        have Nw7 := Lib.hid ow7
        clear ow7
        have sw7 : w6.heap.size ≤ w7.heap.size := bw7.size
        have L_20 := Lib.hid (L_15.out.same (SameIn.below bw7 (by omega)))
        clear L_15
        have L_21 := Lib.hid (L_16.out.same (SameIn.below bw7 (by omega)))
        clear L_16
        have L_22 := Lib.hid (L_17.out.same (SameIn.below bw7 (by omega)))
        clear L_17
        have BL_23 := Lib.hid (BL_18.out.trans (bw7.mono (by omega)))
        clear BL_18 bw7
        go_wp2_with fail
        refine ((implRise_yes _ _ 0 w7.heap.size L.length g (fzZ L) _ (L_20.out.mono (Nat.zero_le _) (by omega)) (Nw7.out.mono (Nat.zero_le _) (by omega)) (Nat.le_refl _) (by omega) HSF.out).mono (fun _ _ h => by rw [HSR.out] at h; exact h)).mono ?_
        rintro e w8 ⟨rfl, bw8⟩
        have sw8 : w7.heap.size ≤ w8.heap.size := bw8.size
        have L_24 := Lib.hid (L_20.out.same (SameIn.below bw8 (by omega)))
        clear L_20
        have L_25 := Lib.hid (L_21.out.same (SameIn.below bw8 (by omega)))
        clear L_21
        have L_26 := Lib.hid (L_22.out.same (SameIn.below bw8 (by omega)))
        clear L_22
        have L_27 := Lib.hid (Nw7.out.same (SameIn.below bw8 (by omega)))
        clear Nw7
        have BL_28 := Lib.hid (BL_23.out.trans (bw8.mono (by omega)))
        clear BL_23 bw8
        go_wp2
        go_ret
        exact ⟨rfl, BL_28.out⟩
      · have hce' : ¬ (uc : Int) = k := by omega
        go_wp2_with fail
        refine (HC1.out _ _ 0 w1.heap.size _ (R_g.out.mono (Nat.zero_le _) (by omega)) (R_u.out.mono (Nat.zero_le _) (by omega)) (Nat.le_refl _) (by omega)).mono ?_
        rintro e w2 ⟨rfl, bw2⟩
        have sw2 : w1.heap.size ≤ w2.heap.size := bw2.size
        have L_1 := Lib.hid (R_g.out.same (SameIn.below bw2 (by omega)))
        clear R_g
        have L_2 := Lib.hid (R_u.out.same (SameIn.below bw2 (by omega)))
        clear R_u
        have BL_3 := Lib.hid (BL.out.trans (bw2.mono (by omega)))
        clear BL bw2
        go_wp2_with fail
        refine (HC2.out _ _ 0 w2.heap.size _ (L_1.out.mono (Nat.zero_le _) (by omega)) (L_2.out.mono (Nat.zero_le _) (by omega)) (Nat.le_refl _) (by omega)).mono ?_
        rintro e w3 ⟨rfl, bw3⟩
        have sw3 : w2.heap.size ≤ w3.heap.size := bw3.size
        have L_4 := Lib.hid (L_1.out.same (SameIn.below bw3 (by omega)))
        clear L_1
        have L_5 := Lib.hid (L_2.out.same (SameIn.below bw3 (by omega)))
        clear L_2
        have BL_6 := Lib.hid (BL_3.out.trans (bw3.mono (by omega)))
        clear BL_3 bw3
        go_wp2_with fail
        refine (implDo_yes _ _ 0 w3.heap.size k g z0 _ (L_4.out.mono (Nat.zero_le _) (by omega)) (RdT.take (L_5.out.mono (Nat.zero_le _) (by omega)) (by omega)) (Nat.le_refl _) (by omega) HPT.out).mono ?_
        rintro e w4 ⟨r_7, rfl, ⟨_, _, _, rfl⟩, ow4, bw4⟩
        have Nw4 := Lib.hid (ow4.rd)
        clear ow4
        have sw4 : w3.heap.size ≤ w4.heap.size := bw4.size
        have L_8 := Lib.hid (L_4.out.same (SameIn.below bw4 (by omega)))
        clear L_4
        have L_9 := Lib.hid (L_5.out.same (SameIn.below bw4 (by omega)))
        clear L_5
        have BL_10 := Lib.hid (BL_6.out.trans (bw4.mono (by omega)))
        clear BL_6 bw4
        go_wp2_with fail
        refine ((implRise_yes _ _ 0 w4.heap.size k g z0 _ (L_8.out.mono (Nat.zero_le _) (by omega)) (RdT.take (L_9.out.mono (Nat.zero_le _) (by omega)) (by omega)) (Nat.le_refl _) (by omega) HPT.out).mono (fun _ _ h => by rw [EX.out] at h; exact h)).mono ?_
        rintro e w5 ⟨rfl, bw5⟩
        have sw5 : w4.heap.size ≤ w5.heap.size := bw5.size
        have L_11 := Lib.hid (L_8.out.same (SameIn.below bw5 (by omega)))
        clear L_8
        have L_12 := Lib.hid (L_9.out.same (SameIn.below bw5 (by omega)))
        clear L_9
        have L_13 := Lib.hid (Nw4.out.same (SameIn.below bw5 (by omega)))
        clear Nw4
        have BL_14 := Lib.hid (BL_10.out.trans (bw5.mono (by omega)))
        clear BL_10 bw5
        go_wp2_with fail
        refine ((implRise_yes _ _ 0 w5.heap.size (n0 - k) (exG g k z0) (dpZ z0 k) _ (L_13.out.mono (Nat.zero_le _) (by omega)) (RdT.dropT (L_12.out.mono (Nat.zero_le _) (by omega)) hk) (Nat.le_refl _) (by omega) HPR.out).mono (fun _ _ h => by rw [EY.out] at h; exact h)).mono ?_
        rintro e w6 ⟨rfl, bw6⟩
        have sw6 : w5.heap.size ≤ w6.heap.size := bw6.size
        have L_15 := Lib.hid (L_11.out.same (SameIn.below bw6 (by omega)))
        clear L_11
        have L_16 := Lib.hid (L_12.out.same (SameIn.below bw6 (by omega)))
        clear L_12
        have L_17 := Lib.hid (L_13.out.same (SameIn.below bw6 (by omega)))
        clear L_13
        have BL_18 := Lib.hid (BL_14.out.trans (bw6.mono (by omega)))
        clear BL_14 bw6
        go_wp2_with fail
        refine (HC3.out _ _ 0 w6.heap.size _ (L_15.out.mono (Nat.zero_le _) (by omega)) (L_16.out.mono (Nat.zero_le _) (by omega)) (Nat.le_refl _) (by omega)).mono ?_
        rintro e w7 ⟨r_19, rfl, _, ow7, bw7⟩
        obtain ⟨a_s, c_s, rfl⟩ := ow7.shape
        have Nw7 := Lib.hid ow7
        clear ow7
        have sw7 : w6.heap.size ≤ w7.heap.size := bw7.size
        have L_20 := Lib.hid (L_15.out.same (SameIn.below bw7 (by omega)))
        clear L_15
        have L_21 := Lib.hid (L_16.out.same (SameIn.below bw7 (by omega)))
        clear L_16
        have L_22 := Lib.hid (L_17.out.same (SameIn.below bw7 (by omega)))
        clear L_17
        have BL_23 := Lib.hid (BL_18.out.trans (bw7.mono (by omega)))
        clear BL_18 bw7
        go_wp2_with fail
        refine ((implRise_yes _ _ 0 w7.heap.size L.length g (fzZ L) _ (L_20.out.mono (Nat.zero_le _) (by omega)) (Nw7.out.mono (Nat.zero_le _) (by omega)) (Nat.le_refl _) (by omega) HSF.out).mono (fun _ _ h => by rw [HSR.out] at h; exact h)).mono ?_
        rintro e w8 ⟨rfl, bw8⟩
        have sw8 : w7.heap.size ≤ w8.heap.size := bw8.size
        have L_24 := Lib.hid (L_20.out.same (SameIn.below bw8 (by omega)))
        clear L_20
        have L_25 := Lib.hid (L_21.out.same (SameIn.below bw8 (by omega)))
        clear L_21
        have L_26 := Lib.hid (L_22.out.same (SameIn.below bw8 (by omega)))
        clear L_22
        have L_27 := Lib.hid (Nw7.out.same (SameIn.below bw8 (by omega)))
        clear Nw7
        have BL_28 := Lib.hid (BL_23.out.trans (bw8.mono (by omega)))
        clear BL_23 bw8
        go_wp2
        go_ret
        exact ⟨rfl, BL_28.out⟩
end Go.Proofs.Ytidlloelinmnnaa
