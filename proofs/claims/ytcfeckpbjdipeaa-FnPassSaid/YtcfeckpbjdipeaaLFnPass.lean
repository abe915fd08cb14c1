/- The law FnPass of the promises: its walk. -/
import Derived.Test.YtcfeckpbjdipeaaPkX
namespace Go.Proofs.Ytcfeckpbjdipeaa
open Go.RowKit
set_option linter.unusedVariables false

set_option maxHeartbeats 4000000 in
set_option maxRecDepth 100000 in
theorem law_FnPass (v : Value) (n : Nat) (v' : Value) (nm : Nat) (w : World) (hv : RdB w.heap.size w v n) (hv' : RdB w.heap.size w v' nm) : Calls Try.prog 4 #[v, v'] w (LawPost w) := by
  have HD := Lib.hid (draw_DrawPassBetween v n w.heap.size w hv (Nat.le_refl _))
  obtain ⟨ao, cap, cb, off, Z, rfl, hc1, hc2, _⟩ := hv
  obtain ⟨ao', cap', cb', off', Z', rfl, hc1', hc2', _⟩ := hv'
  by_cases hn : 1048576 < n
  · have hn' : (1048576 : Int) < n := by omega
    go_enter Try.func4, Try.ntmps4
    go_wp2
    go_ret
    exact ⟨rfl, Below.refl _ _⟩
  by_cases hn2 : 1048576 < nm
  · have hn' : ¬ (1048576 : Int) < n := by omega
    have hn2' : decide ((1048576 : Int) < nm) = true := by simp; omega
    go_enter Try.func4, Try.ntmps4
    go_wp2
    go_ret
    exact ⟨rfl, Below.refl _ _⟩
  · have hn' : ¬ (1048576 : Int) < n := by omega
    have hn2' : decide ((1048576 : Int) < nm) = false := by simp; omega
    go_enter Try.func4, Try.ntmps4
    go_wp2_with fail
    refine HD.out.mono ?_
    rintro e w1 ⟨vg, g, i0, j0, rfl, _, hm, hgn, hgl, hi0, hj0, bw1⟩
    obtain ⟨ag, cg, rfl⟩ := hm.shapeV
    have R_g := Lib.hid hm
    clear hm HD hgl
    have sw1 : w.heap.size ≤ w1.heap.size := bw1.size
    have BL := Lib.hid bw1
    clear bw1
    by_cases hok : g.PkIn i0 ∧ g.PkIn j0
    case neg =>
      go_wp2_with fail
      refine (implPs_no _ 0 w1.heap.size g i0 j0 _ (R_g.out.mono (Nat.zero_le _) (by omega)) (Nat.le_refl _) hok).mono ?_
      rintro e w2 ⟨rfl, bw2⟩
      have sw2 : w1.heap.size ≤ w2.heap.size := bw2.size
      have L_1 := Lib.hid (R_g.out.same (SameIn.below bw2 (by omega)))
      clear R_g
      have BL_2 := Lib.hid (BL.out.trans (bw2.mono (by omega)))
      clear BL bw2
      go_wp2_with fail
      refine (specPs_no _ 0 w2.heap.size g i0 j0 _ (L_1.out.mono (Nat.zero_le _) (by omega)) (Nat.le_refl _) hok).mono ?_
      rintro e w3 ⟨rfl, bw3⟩
      have sw3 : w2.heap.size ≤ w3.heap.size := bw3.size
      have L_3 := Lib.hid (L_1.out.same (SameIn.below bw3 (by omega)))
      clear L_1
      have BL_4 := Lib.hid (BL_2.out.trans (bw3.mono (by omega)))
      clear BL_2 bw3
      go_wp2
      go_ret
      exact ⟨rfl, BL_4.out⟩
    case pos =>
      obtain ⟨⟨hval, hi1, hi2⟩, ⟨_, hj1, hj2⟩⟩ := hok
      obtain ⟨i, rfl⟩ := Int.eq_ofNat_of_zero_le hi1
      obtain ⟨j, rfl⟩ := Int.eq_ofNat_of_zero_le hj1
      have hi : i < g.n * g.len 0 := by omega
      have hj : j < g.n * g.len 0 := by omega
      have hn7 := hval.1.2
      have hn1 := hval.1.1
      have hl7 := hval.2.1.2
      have hl1 := hval.2.1.1
      have h49 := mul_le_49 hn7 hl7
      have hpos : 0 < g.n * g.len 0 := Nat.mul_pos (by omega) (by omega)
      have hZ : ∀ x, x < g.n * g.len 0 → 0 ≤ g.flat x ∧ g.flat x ≤ 99 := fun y hy => flat_okW hval hy
      obtain ⟨c, ec⟩ : ∃ c, nm % (g.n * g.len 0) = c := ⟨_, rfl⟩
      have hc : c < g.n * g.len 0 := by rw [← ec]; exact Nat.mod_lt _ hpos
      have hAt : ∀ (a b : Nat) (ha : a < g.n * g.len 0), psN g.n (g.len 0) g.flat a b = psV g.n (g.len 0) g.flat ⟨a, ha⟩ b := fun a b ha => psN_at ⟨a, ha⟩ b
      have hsy : psN g.n (g.len 0) g.flat j i = psN g.n (g.len 0) g.flat i j := by rw [hAt _ _ hi, hAt _ _ hj]; exact psV_symm hZ ⟨j, hj⟩ ⟨i, hi⟩
      have htr : min (psN g.n (g.len 0) g.flat i c) (psN g.n (g.len 0) g.flat c j) ≤ psN g.n (g.len 0) g.flat i j := by rw [hAt _ _ hi, hAt _ _ hc, hAt _ _ hi]; exact psV_tri hZ ⟨i, hi⟩ ⟨c, hc⟩ ⟨j, hj⟩
      have hle : psN g.n (g.len 0) g.flat i j ≤ g.flat i ∧ psN g.n (g.len 0) g.flat i j ≤ g.flat j := by rw [hAt _ _ hi]; exact psV_le hZ ⟨i, hi⟩ ⟨j, hj⟩
      have hse : i = j → psN g.n (g.len 0) g.flat i j = g.flat i := fun e => by subst e; rw [hAt _ _ hi]; exact psV_self hZ ⟨i, hi⟩
      have hge : 0 ≤ psN g.n (g.len 0) g.flat i j ∧ psN g.n (g.len 0) g.flat i j ≤ 99 := by rw [hAt _ _ hi]; exact psV_ge hZ ⟨i, hi⟩ ⟨j, hj⟩
      have HP := Lib.hid (fun (a b : Nat) (ha : a < g.n * g.len 0) (hb : b < g.n * g.len 0) (W : World) (hi' : Nat) (v : Value) (h : RdM 0 hi' W v g) (hh : hi' ≤ W.heap.size) => implPs_n v 0 hi' g a b ha hb W h hh hval)
      have HS := Lib.hid (fun (W : World) (hi' : Nat) (v : Value) (h : RdM 0 hi' W v g) (hh : hi' ≤ W.heap.size) => specPs_n v 0 hi' g i j hi hj W h hh hval)
      have HCE := Lib.hid (fun (W : World) (hi' : Nat) (v : Value) (h : RdM 0 hi' W v g) => cellsOf_any v 0 hi' g W h hval)
      have HH := Lib.hid (fun (a : Nat) (ha : a < g.n * g.len 0) (W : World) (hi' : Nat) (v : Value) (h : RdM 0 hi' W v g) => heightOf_any v 0 hi' g a W h hval ha)
      have HP1 := Lib.hid (fun (W : World) (hi' : Nat) (v : Value) (h : RdM 0 hi' W v g) (hh : hi' ≤ W.heap.size) => HP.out i j hi hj W hi' v h hh)
      have HP2 := Lib.hid (fun (W : World) (hi' : Nat) (v : Value) (h : RdM 0 hi' W v g) (hh : hi' ≤ W.heap.size) => HP.out i c hi hc W hi' v h hh)
      have HP3 := Lib.hid (fun (W : World) (hi' : Nat) (v : Value) (h : RdM 0 hi' W v g) (hh : hi' ≤ W.heap.size) => HP.out c j hc hj W hi' v h hh)
      have HP4 := Lib.hid (fun (W : World) (hi' : Nat) (v : Value) (h : RdM 0 hi' W v g) (hh : hi' ≤ W.heap.size) => HP.out j i hj hi W hi' v h hh)
      have HH1 := Lib.hid (fun (W : World) (hi' : Nat) (v : Value) (h : RdM 0 hi' W v g) => HH.out i hi W hi' v h)
      have HH2 := Lib.hid (fun (W : World) (hi' : Nat) (v : Value) (h : RdM 0 hi' W v g) => HH.out j hj W hi' v h)
      obtain ⟨N, eN⟩ : ∃ y, g.n * g.len 0 = y := ⟨_, rfl⟩
      have hmod : (nm : Int) % (N : Int) = c := by rw [← ec, ← eN]; exact (Int.natCast_emod _ _).symm
      have hN0 : ¬ N = 0 := by omega
      obtain ⟨p, ep⟩ : ∃ p, psN g.n (g.len 0) g.flat i j = p := ⟨_, rfl⟩
      obtain ⟨x, ex⟩ : ∃ p, psN g.n (g.len 0) g.flat i c = p := ⟨_, rfl⟩
      obtain ⟨y, ey⟩ : ∃ p, psN g.n (g.len 0) g.flat c j = p := ⟨_, rfl⟩
      obtain ⟨za, eza⟩ : ∃ p, g.flat i = p := ⟨_, rfl⟩
      obtain ⟨zb, ezb⟩ : ∃ p, g.flat j = p := ⟨_, rfl⟩
      simp only [hsy, ep, ex, ey, eza, ezb] at htr hle hse hge HP1 HP2 HP3 HP4 HH1 HH2 HS
      rw [eN] at h49 hc
      simp only [eN] at HCE
      clear eN ec hsy ep ex ey eza ezb hAt HP HH hZ hpos hi2 hj2 hi1 hj1 hi hj
      have HSE := Lib.hid hse
      clear hse
      go_wp2_with fail
      refine (HP1.out _ w1.heap.size _ (R_g.out.mono (Nat.zero_le _) (by omega)) (Nat.le_refl _)).mono ?_
      rintro e w2 ⟨rfl, bw2⟩
      have sw2 : w1.heap.size ≤ w2.heap.size := bw2.size
      have L_1 := Lib.hid (R_g.out.same (SameIn.below bw2 (by omega)))
      clear R_g
      have BL_2 := Lib.hid (BL.out.trans (bw2.mono (by omega)))
      clear BL bw2
      go_wp2_with fail
      refine (HS.out _ w2.heap.size _ (L_1.out.mono (Nat.zero_le _) (by omega)) (Nat.le_refl _)).mono ?_
      rintro e w3 ⟨rfl, bw3⟩
      have sw3 : w2.heap.size ≤ w3.heap.size := bw3.size
      have L_3 := Lib.hid (L_1.out.same (SameIn.below bw3 (by omega)))
      clear L_1
      have BL_4 := Lib.hid (BL_2.out.trans (bw3.mono (by omega)))
      clear BL_2 bw3
      have hTT : (p != p) = false := by simp
      have hT0 : decide (p < 0) = false := by simp <;> omega
      go_wp2_with fail
      refine (HCE.out _ w3.heap.size _ (L_3.out.mono (Nat.zero_le _) (by omega))).mono ?_
      rintro e w9 ⟨rfl, rfl⟩
      go_wp2_with fail
      refine (HP2.out _ w3.heap.size _ (L_3.out.mono (Nat.zero_le _) (by omega)) (Nat.le_refl _)).mono ?_
      rintro e w10 ⟨rfl, bw10⟩
      have sw10 : w3.heap.size ≤ w10.heap.size := bw10.size
      have L_5 := Lib.hid (L_3.out.same (SameIn.below bw10 (by omega)))
      clear L_3
      have BL_6 := Lib.hid (BL_4.out.trans (bw10.mono (by omega)))
      clear BL_4 bw10
      go_wp2_with fail
      refine (HP3.out _ w10.heap.size _ (L_5.out.mono (Nat.zero_le _) (by omega)) (Nat.le_refl _)).mono ?_
      rintro e w11 ⟨rfl, bw11⟩
      have sw11 : w10.heap.size ≤ w11.heap.size := bw11.size
      have L_7 := Lib.hid (L_5.out.same (SameIn.below bw11 (by omega)))
      clear L_5
      have BL_8 := Lib.hid (BL_6.out.trans (bw11.mono (by omega)))
      clear BL_6 bw11
      go_wp2_with fail
      refine (HP4.out _ w11.heap.size _ (L_7.out.mono (Nat.zero_le _) (by omega)) (Nat.le_refl _)).mono ?_
      rintro e w12 ⟨rfl, bw12⟩
      have sw12 : w11.heap.size ≤ w12.heap.size := bw12.size
      have L_9 := Lib.hid (L_7.out.same (SameIn.below bw12 (by omega)))
      clear L_7
      have BL_10 := Lib.hid (BL_8.out.trans (bw12.mono (by omega)))
      clear BL_8 bw12
      have hpp : (p == p) = true := by simp
      go_wp2_with fail
      refine (HH1.out _ w12.heap.size _ (L_9.out.mono (Nat.zero_le _) (by omega))).mono ?_
      rintro e _ ⟨rfl, qw13, rfl⟩
      have bw13 := below_drewN (Below.refl w12.heap.size w12) qw13
      obtain ⟨w13, Ew13⟩ : ∃ W, w12.drewN qw13 = W := ⟨_, rfl⟩
      rw [Ew13] at bw13 ⊢
      clear Ew13
      have sw13 : w12.heap.size ≤ w13.heap.size := bw13.size
      have L_11 := Lib.hid (L_9.out.same (SameIn.below bw13 (by omega)))
      clear L_9
      have BL_12 := Lib.hid (BL_10.out.trans (bw13.mono (by omega)))
      clear BL_10 bw13
      go_wp2_with fail
      refine (HH2.out _ w13.heap.size _ (L_11.out.mono (Nat.zero_le _) (by omega))).mono ?_
      rintro e _ ⟨rfl, qw14, rfl⟩
      have bw14 := below_drewN (Below.refl w13.heap.size w13) qw14
      obtain ⟨w14, Ew14⟩ : ∃ W, w13.drewN qw14 = W := ⟨_, rfl⟩
      rw [Ew14] at bw14 ⊢
      clear Ew14
      have sw14 : w13.heap.size ≤ w14.heap.size := bw14.size
      have L_13 := Lib.hid (L_11.out.same (SameIn.below bw14 (by omega)))
      clear L_11
      have BL_14 := Lib.hid (BL_12.out.trans (bw14.mono (by omega)))
      clear BL_12 bw14
      have h1 : p ≤ min za zb := by omega
      have h2 : min x y ≤ p := htr
      by_cases hij : i = j
      · have hpz := HSE.out hij
        have hb1 : ((i : Int) != (j : Int)) = false := by simp [hij]
        have hpb : (p == za) = true := by rw [beq_iff_eq]; exact hpz
        clear hpz hij
        go_wp2_with fail
        refine (HH1.out _ w14.heap.size _ (L_13.out.mono (Nat.zero_le _) (by omega))).mono ?_
        rintro e _ ⟨rfl, qw15, rfl⟩
        have bw15 := below_drewN (Below.refl w14.heap.size w14) qw15
        obtain ⟨w15, Ew15⟩ : ∃ W, w14.drewN qw15 = W := ⟨_, rfl⟩
        rw [Ew15] at bw15 ⊢
        clear Ew15
        have sw15 : w14.heap.size ≤ w15.heap.size := bw15.size
        have L_15 := Lib.hid (L_13.out.same (SameIn.below bw15 (by omega)))
        clear L_13
        have BL_16 := Lib.hid (BL_14.out.trans (bw15.mono (by omega)))
        clear BL_14 bw15
        go_wp2
        go_ret
        exact ⟨rfl, BL_16.out⟩
      · have hb1 : ((i : Int) != (j : Int)) = true := by rw [bne_iff_ne]; omega
        clear hij
        go_wp2
        go_ret
        exact ⟨rfl, BL_14.out⟩
end Go.Proofs.Ytcfeckpbjdipeaa
