/- The law FnFixes of the promises: its walk. -/
import Derived.Test.YtidlloelinmnnaaFtP
import Derived.Test.YtidlloelinmnnaaDrawFy
namespace Go.Proofs.Ytidlloelinmnnaa
open Go.RowKit
set_option linter.unusedVariables false

set_option maxHeartbeats 4000000 in
set_option maxRecDepth 100000 in
theorem law_FnFixes (v : Value) (n : Nat) (vm : Value) (nm : Nat) (w : World) (hv : RdB w.heap.size w v n) (hvm : RdB w.heap.size w vm nm) : Calls Try.prog 7 #[v, vm] w (LawPost w) := by
  have HD := Lib.hid (draw_DrawFixesValid v n w.heap.size w hv (Nat.le_refl _))
  obtain ⟨ao, cap, cb, off, Z, rfl, hc1, hc2, _⟩ := hv
  obtain ⟨ao2, cap2, cb2, off2, Z2, rfl, hd1, hd2, _⟩ := hvm
  by_cases hn : 1048576 < n
  · have hn' : (1048576 : Int) < n := by omega
    go_enter Try.func7, Try.ntmps7
    go_wp2
    go_ret
    exact ⟨rfl, Below.refl _ _⟩
  by_cases hm : 1048576 < nm
  · have hn' : ¬ (1048576 : Int) < n := by omega
    have hm' : (1048576 : Int) < nm := by omega
    go_enter Try.func7, Try.ntmps7
    go_wp2
    go_ret
    exact ⟨rfl, Below.refl _ _⟩
  · have hn' : ¬ (1048576 : Int) < n := by omega
    have hm' : ¬ (1048576 : Int) < nm := by omega
    go_enter Try.func7, Try.ntmps7
    go_wp2_with fail
    refine HD.out.mono ?_
    rintro e w1 ⟨vg, g, vu, n0, z0, rfl, _, hsb, hm, ht, hgn, hgl, hm6, bw1⟩
    obtain ⟨bg, og, cg, rfl⟩ := hm.shape (by omega)
    obtain ⟨ua, uc, rfl⟩ := ht.shape
    have R_g := Lib.hid hm
    have R_u := Lib.hid ht
    have HGL := Lib.hid hgl
    obtain ⟨hgn1, hgn5⟩ := hgn
    have hcp : n0 ≤ uc ∧ uc ≤ 9223372036854775807 := by obtain ⟨_, _, _, _, he, q1, q2, _⟩ := ht; simp only [Value.slice.injEq] at he; omega
    clear hm ht hgl HD
    have sw1 : w.heap.size ≤ w1.heap.size := bw1.size
    have BL := Lib.hid bw1
    clear bw1
    by_cases hok : FxOk g n0 z0
    case neg =>
      have HFB := Lib.hid (fxB_no hok)
      clear hok
      go_wp2_with fail
      refine (implValid_b _ _ 0 w1.heap.size n0 g z0 _ (R_g.out.mono (Nat.zero_le _) (by omega)) (R_u.out.mono (Nat.zero_le _) (by omega)) (Nat.le_refl _) (by omega) false HFB.out).mono ?_
      rintro e w2 ⟨rfl, bw2⟩
      have sw2 : w1.heap.size ≤ w2.heap.size := bw2.size
      have L_1 := Lib.hid (R_g.out.same (SameIn.below bw2 (by omega)))
      clear R_g
      have L_2 := Lib.hid (R_u.out.same (SameIn.below bw2 (by omega)))
      clear R_u
      have BL_3 := Lib.hid (BL.out.trans (bw2.mono (by omega)))
      clear BL bw2
      go_wp2_with fail
      refine (specValid_b _ _ 0 w2.heap.size n0 g z0 _ (L_1.out.mono (Nat.zero_le _) (by omega)) (L_2.out.mono (Nat.zero_le _) (by omega)) (Nat.le_refl _) (by omega) false HFB.out).mono ?_
      rintro e w3 ⟨rfl, bw3⟩
      have sw3 : w2.heap.size ≤ w3.heap.size := bw3.size
      have L_4 := Lib.hid (L_1.out.same (SameIn.below bw3 (by omega)))
      clear L_1
      have L_5 := Lib.hid (L_2.out.same (SameIn.below bw3 (by omega)))
      clear L_2
      have BL_6 := Lib.hid (BL_3.out.trans (bw3.mono (by omega)))
      clear BL_3 bw3
      go_wp2
      go_ret
      exact ⟨rfl, BL_6.out⟩
    case pos =>
      obtain ⟨k, ek⟩ : ∃ k, nm % (n0 + 1) = k := ⟨_, rfl⟩
      have hk : k ≤ n0 := by rw [← ek]; exact Nat.lt_succ_iff.1 (Nat.mod_lt nm (Nat.succ_pos n0))
      have hmod : (nm : Int) % ((n0 : Int) + 1) = k := by rw [← ek, Int.natCast_emod]; rfl
      have hmod2 : (nm : Int).tmod ((n0 : Int) + 1) = k := by rw [Int.tmod_eq_emod_of_nonneg (by omega)]; exact hmod
      have hk1 : (k : Int) ≤ n0 := by omega
      have hk2 : (k : Int) ≤ uc := by omega
      have hk3 : (n0 : Int) ≤ uc := by omega
      have hk4 : k ≤ uc := by omega
      have hsub : n0 - k ≤ 6 := by omega
      clear ek
      have HFB := Lib.hid (fxB_yes hok)
      have HPT := Lib.hid (pt_ok hok hk)
      have HPR := Lib.hid (pt_rest hok hk)
      have HPX := Lib.hid (pt_ex hok hk)
      have HC3 := Lib.hid (fun v u lo hi w h1 h2 h3 h4 => implDo_yes v u lo hi n0 g z0 w h1 h2 h3 h4 hok)
      clear hok
      rcases hsb with hsb | ⟨ub, uo, ul, uc', hsb⟩
      · simp only [Value.slice.injEq] at hsb
        obtain ⟨rfl, rfl, rfl⟩ := hsb
        obtain rfl : k = 0 := by omega
        go_wp2_with fail
        refine (implValid_b _ _ 0 w1.heap.size 0 g z0 _ (R_g.out.mono (Nat.zero_le _) (by omega)) (R_u.out.mono (Nat.zero_le _) (by omega)) (Nat.le_refl _) (by omega) true HFB.out).mono ?_
        rintro e w2 ⟨rfl, bw2⟩
        have sw2 : w1.heap.size ≤ w2.heap.size := bw2.size
        have L_1 := Lib.hid (R_g.out.same (SameIn.below bw2 (by omega)))
        clear R_g
        have L_2 := Lib.hid (R_u.out.same (SameIn.below bw2 (by omega)))
        clear R_u
        have BL_3 := Lib.hid (BL.out.trans (bw2.mono (by omega)))
        clear BL bw2
        go_wp2_with fail
        refine (specValid_b _ _ 0 w2.heap.size 0 g z0 _ (L_1.out.mono (Nat.zero_le _) (by omega)) (L_2.out.mono (Nat.zero_le _) (by omega)) (Nat.le_refl _) (by omega) true HFB.out).mono ?_
        rintro e w3 ⟨rfl, bw3⟩
        have sw3 : w2.heap.size ≤ w3.heap.size := bw3.size
        have L_4 := Lib.hid (L_1.out.same (SameIn.below bw3 (by omega)))
        clear L_1
        have L_5 := Lib.hid (L_2.out.same (SameIn.below bw3 (by omega)))
        clear L_2
        have BL_6 := Lib.hid (BL_3.out.trans (bw3.mono (by omega)))
        clear BL_3 bw3
        go_wp2_with fail
        refine (implDo_yes _ _ 0 w3.heap.size 0 g z0 _ (L_4.out.mono (Nat.zero_le _) (by omega)) (RdT.take (L_5.out.mono (Nat.zero_le _) (by omega)) (by omega)) (Nat.le_refl _) (by omega) HPT.out).mono ?_
        rintro e w4 ⟨r_7, rfl, ⟨_, _, _, rfl⟩, ow4, bw4⟩
        have Nw4 := Lib.hid (ow4.rd)
        clear ow4
        have sw4 : w3.heap.size ≤ w4.heap.size := bw4.size
        have L_8 := Lib.hid (L_4.out.same (SameIn.below bw4 (by omega)))
        clear L_4
        have L_9 := Lib.hid (L_5.out.same (SameIn.below bw4 (by omega)))
        clear L_5
        have BL_10 := Lib.hid (BL_6.out.trans (bw4.mono (by omega)))
        clear BL_6 bw4
        have hz0 : 0 - 0 = 0 := Nat.sub_self _
        rw [hz0] at HPR HPX
        go_wp2_with fail
        refine (implDo_yes _ _ 0 w4.heap.size 0 (exG g 0 z0) (dpZ z0 0) _ (Nw4.out.mono (Nat.zero_le _) (by omega)) (RdT.dropE (by omega)) (Nat.le_refl _) (by omega) HPR.out).mono ?_
        rintro e w5 ⟨r_11, rfl, ⟨_, _, _, rfl⟩, ow5, bw5⟩
        have Nw5 := Lib.hid (ow5.rd)
        clear ow5
        have sw5 : w4.heap.size ≤ w5.heap.size := bw5.size
        have L_12 := Lib.hid (L_8.out.same (SameIn.below bw5 (by omega)))
        clear L_8
        have L_13 := Lib.hid (L_9.out.same (SameIn.below bw5 (by omega)))
        clear L_9
        have L_14 := Lib.hid (Nw4.out.same (SameIn.below bw5 (by omega)))
        clear Nw4
        have BL_15 := Lib.hid (BL_10.out.trans (bw5.mono (by omega)))
        clear BL_10 bw5
        go_wp2_with fail
        refine (HC3.out _ _ 0 w5.heap.size _ (L_12.out.mono (Nat.zero_le _) (by omega)) (L_13.out.mono (Nat.zero_le _) (by omega)) (Nat.le_refl _) (by omega)).mono ?_
        rintro e w6 ⟨r_16, rfl, ⟨_, _, _, rfl⟩, ow6, bw6⟩
        have Nw6 := Lib.hid (ow6.rd)
        clear ow6
        have sw6 : w5.heap.size ≤ w6.heap.size := bw6.size
        have L_17 := Lib.hid (L_12.out.same (SameIn.below bw6 (by omega)))
        clear L_12
        have L_18 := Lib.hid (L_13.out.same (SameIn.below bw6 (by omega)))
        clear L_13
        have L_19 := Lib.hid (L_14.out.same (SameIn.below bw6 (by omega)))
        clear L_14
        have L_20 := Lib.hid (Nw5.out.same (SameIn.below bw6 (by omega)))
        clear Nw5
        have BL_21 := Lib.hid (BL_15.out.trans (bw6.mono (by omega)))
        clear BL_15 bw6
        go_wp2_with fail
        refine (sameGrid_any _ _ _ _ _ _ (exG g 0 z0) _ (L_20.out.congr HPX.out) (Nw6.out)).mono ?_
        intro e w7 hq
        obtain ⟨rfl, bw7⟩ := hq.below
        clear hq
        have sw7 : w6.heap.size ≤ w7.heap.size := bw7.size
        have L_22 := Lib.hid (L_17.out.same (SameIn.below bw7 (by omega)))
        clear L_17
        have L_23 := Lib.hid (L_18.out.same (SameIn.below bw7 (by omega)))
        clear L_18
        have L_24 := Lib.hid (L_19.out.same (SameIn.below bw7 (by omega)))
        clear L_19
        have L_25 := Lib.hid (L_20.out.same (SameIn.below bw7 (by omega)))
        clear L_20
        have L_26 := Lib.hid (Nw6.out.same (SameIn.below bw7 (by omega)))
        clear Nw6
        have BL_27 := Lib.hid (BL_21.out.trans (bw7.mono (by omega)))
        clear BL_21 bw7
        go_wp2
        go_ret
        exact ⟨rfl, BL_27.out⟩
      simp only [Value.slice.injEq] at hsb
      obtain ⟨rfl, rfl, rfl⟩ := hsb
      by_cases hce : uc = k
      · have e1 : n0 = k := by omega
        have e2 : n0 = uc := by omega
        subst e1
        subst e2
        go_wp2_with fail
        refine (implValid_b _ _ 0 w1.heap.size n0 g z0 _ (R_g.out.mono (Nat.zero_le _) (by omega)) (R_u.out.mono (Nat.zero_le _) (by omega)) (Nat.le_refl _) (by omega) true HFB.out).mono ?_
        rintro e w2 ⟨rfl, bw2⟩
        have sw2 : w1.heap.size ≤ w2.heap.size := bw2.size
        have L_1 := Lib.hid (R_g.out.same (SameIn.below bw2 (by omega)))
        clear R_g
        have L_2 := Lib.hid (R_u.out.same (SameIn.below bw2 (by omega)))
        clear R_u
        have BL_3 := Lib.hid (BL.out.trans (bw2.mono (by omega)))
        clear BL bw2
        go_wp2_with fail
        refine (specValid_b _ _ 0 w2.heap.size n0 g z0 _ (L_1.out.mono (Nat.zero_le _) (by omega)) (L_2.out.mono (Nat.zero_le _) (by omega)) (Nat.le_refl _) (by omega) true HFB.out).mono ?_
        rintro e w3 ⟨rfl, bw3⟩
        have sw3 : w2.heap.size ≤ w3.heap.size := bw3.size
        have L_4 := Lib.hid (L_1.out.same (SameIn.below bw3 (by omega)))
        clear L_1
        have L_5 := Lib.hid (L_2.out.same (SameIn.below bw3 (by omega)))
        clear L_2
        have BL_6 := Lib.hid (BL_3.out.trans (bw3.mono (by omega)))
        clear BL_3 bw3
        go_wp2_with fail
        refine (implDo_yes _ _ 0 w3.heap.size n0 g z0 _ (L_4.out.mono (Nat.zero_le _) (by omega)) (RdT.take (L_5.out.mono (Nat.zero_le _) (by omega)) (by omega)) (Nat.le_refl _) (by omega) HPT.out).mono ?_
        rintro e w4 ⟨r_7, rfl, ⟨_, _, _, rfl⟩, ow4, bw4⟩
        have Nw4 := Lib.hid (ow4.rd)
        clear ow4
        have sw4 : w3.heap.size ≤ w4.heap.size := bw4.size
        have L_8 := Lib.hid (L_4.out.same (SameIn.below bw4 (by omega)))
        clear L_4
        have L_9 := Lib.hid (L_5.out.same (SameIn.below bw4 (by omega)))
        clear L_5
        have BL_10 := Lib.hid (BL_6.out.trans (bw4.mono (by omega)))
        clear BL_6 bw4
        have hz0 : n0 - n0 = 0 := Nat.sub_self _
        rw [hz0] at HPR HPX
        go_wp2_with fail
        refine (implDo_yes _ _ 0 w4.heap.size 0 (exG g n0 z0) (dpZ z0 n0) _ (Nw4.out.mono (Nat.zero_le _) (by omega)) (RdT.dropE (by omega)) (Nat.le_refl _) (by omega) HPR.out).mono ?_
        rintro e w5 ⟨r_11, rfl, ⟨_, _, _, rfl⟩, ow5, bw5⟩
        have Nw5 := Lib.hid (ow5.rd)
        clear ow5
        have sw5 : w4.heap.size ≤ w5.heap.size := bw5.size
        have L_12 := Lib.hid (L_8.out.same (SameIn.below bw5 (by omega)))
        clear L_8
        have L_13 := Lib.hid (L_9.out.same (SameIn.below bw5 (by omega)))
        clear L_9
        have L_14 := Lib.hid (Nw4.out.same (SameIn.below bw5 (by omega)))
        clear Nw4
        have BL_15 := Lib.hid (BL_10.out.trans (bw5.mono (by omega)))
        clear BL_10 bw5
        go_wp2_with fail
        refine (HC3.out _ _ 0 w5.heap.size _ (L_12.out.mono (Nat.zero_le _) (by omega)) (L_13.out.mono (Nat.zero_le _) (by omega)) (Nat.le_refl _) (by omega)).mono ?_
        rintro e w6 ⟨r_16, rfl, ⟨_, _, _, rfl⟩, ow6, bw6⟩
        have Nw6 := Lib.hid (ow6.rd)
        clear ow6
        have sw6 : w5.heap.size ≤ w6.heap.size := bw6.size
        have L_17 := Lib.hid (L_12.out.same (SameIn.below bw6 (by omega)))
        clear L_12
        have L_18 := Lib.hid (L_13.out.same (SameIn.below bw6 (by omega)))
        clear L_13
        have L_19 := Lib.hid (L_14.out.same (SameIn.below bw6 (by omega)))
        clear L_14
        have L_20 := Lib.hid (Nw5.out.same (SameIn.below bw6 (by omega)))
        clear Nw5
        have BL_21 := Lib.hid (BL_15.out.trans (bw6.mono (by omega)))
        clear BL_15 bw6
        go_wp2_with fail
        refine (sameGrid_any _ _ _ _ _ _ (exG g n0 z0) _ (L_20.out.congr HPX.out) (Nw6.out)).mono ?_
        intro e w7 hq
        obtain ⟨rfl, bw7⟩ := hq.below
        clear hq
        have sw7 : w6.heap.size ≤ w7.heap.size := bw7.size
        have L_22 := Lib.hid (L_17.out.same (SameIn.below bw7 (by omega)))
        clear L_17
        have L_23 := Lib.hid (L_18.out.same (SameIn.below bw7 (by omega)))
        clear L_18
        have L_24 := Lib.hid (L_19.out.same (SameIn.below bw7 (by omega)))
        clear L_19
        have L_25 := Lib.hid (L_20.out.same (SameIn.below bw7 (by omega)))
        clear L_20
        have L_26 := Lib.hid (Nw6.out.same (SameIn.below bw7 (by omega)))
        clear Nw6
        have BL_27 := Lib.hid (BL_21.out.trans (bw7.mono (by omega)))
        clear BL_21 bw7
        go_wp2
        go_ret
        exact ⟨rfl, BL_27.out⟩
      · have hce' : ¬ (uc : Int) = k := by omega
        go_wp2_with fail
        refine (implValid_b _ _ 0 w1.heap.size n0 g z0 _ (R_g.out.mono (Nat.zero_le _) (by omega)) (R_u.out.mono (Nat.zero_le _) (by omega)) (Nat.le_refl _) (by omega) true HFB.out).mono ?_
        rintro e w2 ⟨rfl, bw2⟩
        have sw2 : w1.heap.size ≤ w2.heap.size := bw2.size
        have L_1 := Lib.hid (R_g.out.same (SameIn.below bw2 (by omega)))
        clear R_g
        have L_2 := Lib.hid (R_u.out.same (SameIn.below bw2 (by omega)))
        clear R_u
        have BL_3 := Lib.hid (BL.out.trans (bw2.mono (by omega)))
        clear BL bw2
        go_wp2_with fail
        refine (specValid_b _ _ 0 w2.heap.size n0 g z0 _ (L_1.out.mono (Nat.zero_le _) (by omega)) (L_2.out.mono (Nat.zero_le _) (by omega)) (Nat.le_refl _) (by omega) true HFB.out).mono ?_
        rintro e w3 ⟨rfl, bw3⟩
        have sw3 : w2.heap.size ≤ w3.heap.size := bw3.size
        have L_4 := Lib.hid (L_1.out.same (SameIn.below bw3 (by omega)))
        clear L_1
        have L_5 := Lib.hid (L_2.out.same (SameIn.below bw3 (by omega)))
        clear L_2
        have BL_6 := Lib.hid (BL_3.out.trans (bw3.mono (by omega)))
        clear BL_3 bw3
        go_wp2_with fail
        refine (implDo_yes _ _ 0 w3.heap.size k g z0 _ (L_4.out.mono (Nat.zero_le _) (by omega)) (RdT.take (L_5.out.mono (Nat.zero_le _) (by omega)) (by omega)) (Nat.le_refl _) (by omega) HPT.out).mono ?_
        rintro e w4 ⟨r_7, rfl, ⟨_, _, _, rfl⟩, ow4, bw4⟩
        have Nw4 := Lib.hid (ow4.rd)
        clear ow4
        have sw4 : w3.heap.size ≤ w4.heap.size := bw4.size
        have L_8 := Lib.hid (L_4.out.same (SameIn.below bw4 (by omega)))
        clear L_4
        have L_9 := Lib.hid (L_5.out.same (SameIn.below bw4 (by omega)))
        clear L_5
        have BL_10 := Lib.hid (BL_6.out.trans (bw4.mono (by omega)))
        clear BL_6 bw4
        go_wp2_with fail
        refine (implDo_yes _ _ 0 w4.heap.size (n0 - k) (exG g k z0) (dpZ z0 k) _ (Nw4.out.mono (Nat.zero_le _) (by omega)) (RdT.dropT (L_9.out.mono (Nat.zero_le _) (by omega)) hk) (Nat.le_refl _) (by omega) HPR.out).mono ?_
        rintro e w5 ⟨r_11, rfl, ⟨_, _, _, rfl⟩, ow5, bw5⟩
        have Nw5 := Lib.hid (ow5.rd)
        clear ow5
        have sw5 : w4.heap.size ≤ w5.heap.size := bw5.size
        have L_12 := Lib.hid (L_8.out.same (SameIn.below bw5 (by omega)))
        clear L_8
        have L_13 := Lib.hid (L_9.out.same (SameIn.below bw5 (by omega)))
        clear L_9
        have L_14 := Lib.hid (Nw4.out.same (SameIn.below bw5 (by omega)))
        clear Nw4
        have BL_15 := Lib.hid (BL_10.out.trans (bw5.mono (by omega)))
        clear BL_10 bw5
        go_wp2_with fail
        refine (HC3.out _ _ 0 w5.heap.size _ (L_12.out.mono (Nat.zero_le _) (by omega)) (L_13.out.mono (Nat.zero_le _) (by omega)) (Nat.le_refl _) (by omega)).mono ?_
        rintro e w6 ⟨r_16, rfl, ⟨_, _, _, rfl⟩, ow6, bw6⟩
        have Nw6 := Lib.hid (ow6.rd)
        clear ow6
        have sw6 : w5.heap.size ≤ w6.heap.size := bw6.size
        have L_17 := Lib.hid (L_12.out.same (SameIn.below bw6 (by omega)))
        clear L_12
        have L_18 := Lib.hid (L_13.out.same (SameIn.below bw6 (by omega)))
        clear L_13
        have L_19 := Lib.hid (L_14.out.same (SameIn.below bw6 (by omega)))
        clear L_14
        have L_20 := Lib.hid (Nw5.out.same (SameIn.below bw6 (by omega)))
        clear Nw5
        have BL_21 := Lib.hid (BL_15.out.trans (bw6.mono (by omega)))
        clear BL_15 bw6
        go_wp2_with fail
        refine (sameGrid_any _ _ _ _ _ _ (exG g n0 z0) _ (L_20.out.congr HPX.out) (Nw6.out)).mono ?_
        intro e w7 hq
        obtain ⟨rfl, bw7⟩ := hq.below
        clear hq
        have sw7 : w6.heap.size ≤ w7.heap.size := bw7.size
        have L_22 := Lib.hid (L_17.out.same (SameIn.below bw7 (by omega)))
        clear L_17
        have L_23 := Lib.hid (L_18.out.same (SameIn.below bw7 (by omega)))
        clear L_18
        have L_24 := Lib.hid (L_19.out.same (SameIn.below bw7 (by omega)))
        clear L_19
        have L_25 := Lib.hid (L_20.out.same (SameIn.below bw7 (by omega)))
        clear L_20
        have L_26 := Lib.hid (Nw6.out.same (SameIn.below bw7 (by omega)))
        clear Nw6
        have BL_27 := Lib.hid (BL_21.out.trans (bw7.mono (by omega)))
        clear BL_21 bw7
        go_wp2
        go_ret
        exact ⟨rfl, BL_27.out⟩
end Go.Proofs.Ytidlloelinmnnaa
