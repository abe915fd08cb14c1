/- The law FnFixesShort of the promises: its walk. -/
import Derived.Test.YtidlloelinmnnaaFtP
import Derived.Test.YtidlloelinmnnaaDrawFy
namespace Go.Proofs.Ytidlloelinmnnaa
open Go.RowKit
set_option linter.unusedVariables false

set_option maxHeartbeats 4000000 in
set_option maxRecDepth 100000 in
theorem law_FnFixesShort (v : Value) (n : Nat) (w : World) (hv : RdB w.heap.size w v n) : Calls Try.prog 9 #[v] w (LawPost w) := by
  have HD := Lib.hid (draw_DrawFixesShort v n w.heap.size w hv (Nat.le_refl _))
  obtain ⟨ao, cap, cb, off, Z, rfl, hc1, hc2, _⟩ := hv
  by_cases hn : 1048576 < n
  · have hn' : (1048576 : Int) < n := by omega
    go_enter Try.func9, Try.ntmps9
    go_wp2
    go_ret
    exact ⟨rfl, Below.refl _ _⟩
  · have hn' : ¬ (1048576 : Int) < n := by omega
    go_enter Try.func9, Try.ntmps9
    go_wp2_with fail
    refine HD.out.mono ?_
    rintro e w1 ⟨vg, g, vu, n0, z0, rfl, _, _, hm, ht, hgn, hgl, hm6, bw1⟩
    obtain ⟨bg, og, cg, rfl⟩ := hm.shape (by omega)
    obtain ⟨ua, uc, rfl⟩ := ht.shape
    have R_g := Lib.hid hm
    have R_u := Lib.hid ht
    have HGL := Lib.hid hgl
    obtain ⟨hgn1, hgn5⟩ := hgn
    clear hm ht hgl HD
    have sw1 : w.heap.size ≤ w1.heap.size := bw1.size
    have BL := Lib.hid bw1
    clear bw1
    by_cases hok : FxOk g n0 z0
    case neg =>
      go_wp2_with fail
      refine (implShort_no _ _ 0 w1.heap.size n0 g z0 _ (R_g.out.mono (Nat.zero_le _) (by omega)) (R_u.out.mono (Nat.zero_le _) (by omega)) (Nat.le_refl _) (by omega) hok).mono ?_
      rintro e w2 ⟨r_1, rfl, _, ow2, bw2⟩
      obtain ⟨a_o, c_o, rfl⟩ := ow2.shape
      have Nw2 := Lib.hid ow2
      clear ow2
      have sw2 : w1.heap.size ≤ w2.heap.size := bw2.size
      have L_2 := Lib.hid (R_g.out.same (SameIn.below bw2 (by omega)))
      clear R_g
      have L_3 := Lib.hid (R_u.out.same (SameIn.below bw2 (by omega)))
      clear R_u
      have BL_4 := Lib.hid (BL.out.trans (bw2.mono (by omega)))
      clear BL bw2
      go_wp2_with fail
      refine (specShort_no _ _ 0 w2.heap.size n0 g z0 _ (L_2.out.mono (Nat.zero_le _) (by omega)) (L_3.out.mono (Nat.zero_le _) (by omega)) (Nat.le_refl _) (by omega) hok).mono ?_
      rintro e w3 ⟨r_5, rfl, _, ow3, bw3⟩
      obtain ⟨a_q, c_q, rfl⟩ := ow3.shape
      have Nw3 := Lib.hid ow3
      clear ow3
      have sw3 : w2.heap.size ≤ w3.heap.size := bw3.size
      have L_6 := Lib.hid (L_2.out.same (SameIn.below bw3 (by omega)))
      clear L_2
      have L_7 := Lib.hid (L_3.out.same (SameIn.below bw3 (by omega)))
      clear L_3
      have L_8 := Lib.hid (Nw2.out.same (SameIn.below bw3 (by omega)))
      clear Nw2
      have BL_9 := Lib.hid (BL_4.out.trans (bw3.mono (by omega)))
      clear BL_4 bw3
      go_wp2_with fail
      refine (sameFixes_any _ _ _ _ _ _ (0) _ _ _ (L_8.out) (Nw3.out) (fun _ _ => rfl) (by omega)).mono ?_
      rintro e w4 ⟨rfl, qw4, rfl⟩
      have bw4 := below_drewN (Below.refl w3.heap.size w3) qw4
      obtain ⟨w_w4, ew⟩ : ∃ w', w' = w3.drewN qw4 := ⟨_, rfl⟩
      rw [← ew] at bw4 ⊢
      clear ew
      have sw_w4 : w3.heap.size ≤ w_w4.heap.size := bw4.size
      have L_10 := Lib.hid (L_6.out.same (SameIn.below bw4 (by omega)))
      clear L_6
      have L_11 := Lib.hid (L_7.out.same (SameIn.below bw4 (by omega)))
      clear L_7
      have L_12 := Lib.hid (L_8.out.same (SameIn.below bw4 (by omega)))
      clear L_8
      have L_13 := Lib.hid (Nw3.out.same (SameIn.below bw4 (by omega)))
      clear Nw3
      have BL_14 := Lib.hid (BL_9.out.trans (bw4.mono (by omega)))
      clear BL_9 bw4
      go_wp2_with fail
      refine (sameFixes_any _ _ _ _ _ _ (0) _ _ _ (L_12.out) (L_13.out) (fun _ _ => rfl) (by omega)).mono ?_
      rintro e w5 ⟨rfl, qw5, rfl⟩
      have bw5 := below_drewN (Below.refl w_w4.heap.size w_w4) qw5
      obtain ⟨w_w5, ew⟩ : ∃ w', w' = w_w4.drewN qw5 := ⟨_, rfl⟩
      rw [← ew] at bw5 ⊢
      clear ew
      have sw_w5 : w_w4.heap.size ≤ w_w5.heap.size := bw5.size
      have L_15 := Lib.hid (L_10.out.same (SameIn.below bw5 (by omega)))
      clear L_10
      have L_16 := Lib.hid (L_11.out.same (SameIn.below bw5 (by omega)))
      clear L_11
      have L_17 := Lib.hid (L_12.out.same (SameIn.below bw5 (by omega)))
      clear L_12
      have L_18 := Lib.hid (L_13.out.same (SameIn.below bw5 (by omega)))
      clear L_13
      have BL_19 := Lib.hid (BL_14.out.trans (bw5.mono (by omega)))
      clear BL_14 bw5
      go_wp2
      go_ret
      exact ⟨rfl, BL_19.out⟩
    case pos =>
      have HFX := Lib.hid (sh_fx hok)
      have HEX := Lib.hid (sh_ex hok)
      have HSS := Lib.hid (sh_sh hok)
      have HAR := Lib.hid (areB_yes (sh_are hok))
      have hle := sh_le hok
      have HC1 := Lib.hid (fun v u lo hi w h1 h2 h3 h4 => implShort_yes v u lo hi n0 g z0 w h1 h2 h3 h4 hok)
      have HC2 := Lib.hid (fun v u lo hi w h1 h2 h3 h4 => specShort_yes v u lo hi n0 g z0 w h1 h2 h3 h4 hok)
      have HC3 := Lib.hid (fun v u lo hi w h1 h2 h3 h4 => implDo_yes v u lo hi n0 g z0 w h1 h2 h3 h4 hok)
      obtain ⟨L, eL⟩ : ∃ L, shL g n0 z0 = L := ⟨_, rfl⟩
      rw [eL] at HFX HEX HSS HAR HC1 HC2 hle
      have hle' : (L.length : Int) ≤ n0 := by omega
      have hL6 : L.length ≤ 6 := by omega
      clear hok eL
      go_wp2_with fail
      refine (HC1.out _ _ 0 w1.heap.size _ (R_g.out.mono (Nat.zero_le _) (by omega)) (R_u.out.mono (Nat.zero_le _) (by omega)) (Nat.le_refl _) (by omega)).mono ?_
      rintro e w2 ⟨r_1, rfl, _, ow2, bw2⟩
      obtain ⟨a_o, c_o, rfl⟩ := ow2.shape
      have Nw2 := Lib.hid ow2
      clear ow2
      have sw2 : w1.heap.size ≤ w2.heap.size := bw2.size
      have L_2 := Lib.hid (R_g.out.same (SameIn.below bw2 (by omega)))
      clear R_g
      have L_3 := Lib.hid (R_u.out.same (SameIn.below bw2 (by omega)))
      clear R_u
      have BL_4 := Lib.hid (BL.out.trans (bw2.mono (by omega)))
      clear BL bw2
      go_wp2_with fail
      refine (HC2.out _ _ 0 w2.heap.size _ (L_2.out.mono (Nat.zero_le _) (by omega)) (L_3.out.mono (Nat.zero_le _) (by omega)) (Nat.le_refl _) (by omega)).mono ?_
      rintro e w3 ⟨r_5, rfl, _, ow3, bw3⟩
      obtain ⟨a_q, c_q, rfl⟩ := ow3.shape
      have Nw3 := Lib.hid ow3
      clear ow3
      have sw3 : w2.heap.size ≤ w3.heap.size := bw3.size
      have L_6 := Lib.hid (L_2.out.same (SameIn.below bw3 (by omega)))
      clear L_2
      have L_7 := Lib.hid (L_3.out.same (SameIn.below bw3 (by omega)))
      clear L_3
      have L_8 := Lib.hid (Nw2.out.same (SameIn.below bw3 (by omega)))
      clear Nw2
      have BL_9 := Lib.hid (BL_4.out.trans (bw3.mono (by omega)))
      clear BL_4 bw3
      go_wp2_with fail
      refine (sameFixes_any _ _ _ _ _ _ (L.length) _ _ _ (L_8.out) (Nw3.out) (fun _ _ => rfl) (by omega)).mono ?_
      rintro e w4 ⟨rfl, qw4, rfl⟩
      have bw4 := below_drewN (Below.refl w3.heap.size w3) qw4
      obtain ⟨w_w4, ew⟩ : ∃ w', w' = w3.drewN qw4 := ⟨_, rfl⟩
      rw [← ew] at bw4 ⊢
      clear ew
      have sw_w4 : w3.heap.size ≤ w_w4.heap.size := bw4.size
      have L_10 := Lib.hid (L_6.out.same (SameIn.below bw4 (by omega)))
      clear L_6
      have L_11 := Lib.hid (L_7.out.same (SameIn.below bw4 (by omega)))
      clear L_7
      have L_12 := Lib.hid (L_8.out.same (SameIn.below bw4 (by omega)))
      clear L_8
      have L_13 := Lib.hid (Nw3.out.same (SameIn.below bw4 (by omega)))
      clear Nw3
      have BL_14 := Lib.hid (BL_9.out.trans (bw4.mono (by omega)))
      clear BL_9 bw4
      go_wp2_with fail
      refine (HC3.out _ _ 0 w_w4.heap.size _ (L_10.out.mono (Nat.zero_le _) (by omega)) (L_11.out.mono (Nat.zero_le _) (by omega)) (Nat.le_refl _) (by omega)).mono ?_
      rintro e w5 ⟨r_15, rfl, ⟨_, _, _, rfl⟩, ow5, bw5⟩
      have Nw5 := Lib.hid (ow5.rd)
      clear ow5
      have sw5 : w_w4.heap.size ≤ w5.heap.size := bw5.size
      have L_16 := Lib.hid (L_10.out.same (SameIn.below bw5 (by omega)))
      clear L_10
      have L_17 := Lib.hid (L_11.out.same (SameIn.below bw5 (by omega)))
      clear L_11
      have L_18 := Lib.hid (L_12.out.same (SameIn.below bw5 (by omega)))
      clear L_12
      have BL_19 := Lib.hid (BL_14.out.trans (bw5.mono (by omega)))
      clear BL_14 bw5
      go_wp2_with fail
      refine (implDo_yes _ _ 0 w5.heap.size L.length g (fzZ L) _ (L_16.out.mono (Nat.zero_le _) (by omega)) (L_18.out.mono (Nat.zero_le _) (by omega)) (Nat.le_refl _) (by omega) HFX.out).mono ?_
      rintro e w6 ⟨r_20, rfl, ⟨_, _, _, rfl⟩, ow6, bw6⟩
      have Nw6 := Lib.hid (ow6.rd)
      clear ow6
      have sw6 : w5.heap.size ≤ w6.heap.size := bw6.size
      have L_21 := Lib.hid (L_16.out.same (SameIn.below bw6 (by omega)))
      clear L_16
      have L_22 := Lib.hid (L_17.out.same (SameIn.below bw6 (by omega)))
      clear L_17
      have L_23 := Lib.hid (L_18.out.same (SameIn.below bw6 (by omega)))
      clear L_18
      have L_24 := Lib.hid (Nw5.out.same (SameIn.below bw6 (by omega)))
      clear Nw5
      have BL_25 := Lib.hid (BL_19.out.trans (bw6.mono (by omega)))
      clear BL_19 bw6
      go_wp2_with fail
      refine ((implShort_yes _ _ 0 w6.heap.size L.length g (fzZ L) _ (L_21.out.mono (Nat.zero_le _) (by omega)) (L_23.out.mono (Nat.zero_le _) (by omega)) (Nat.le_refl _) (by omega) HFX.out).mono (fun _ _ h => by rw [HSS.out] at h; exact h)).mono ?_
      rintro e w7 ⟨r_26, rfl, _, ow7, bw7⟩
      obtain ⟨a_z, c_z, rfl⟩ := ow7.shape
      have Nw7 := Lib.hid ow7
      clear ow7
      have sw7 : w6.heap.size ≤ w7.heap.size := bw7.size
      have L_27 := Lib.hid (L_21.out.same (SameIn.below bw7 (by omega)))
      clear L_21
      have L_28 := Lib.hid (L_22.out.same (SameIn.below bw7 (by omega)))
      clear L_22
      have L_29 := Lib.hid (L_23.out.same (SameIn.below bw7 (by omega)))
      clear L_23
      have L_30 := Lib.hid (L_24.out.same (SameIn.below bw7 (by omega)))
      clear L_24
      have L_31 := Lib.hid (Nw6.out.same (SameIn.below bw7 (by omega)))
      clear Nw6
      have BL_32 := Lib.hid (BL_25.out.trans (bw7.mono (by omega)))
      clear BL_25 bw7
      go_wp2_with fail
      refine (sameGrid_any _ _ _ _ _ _ (exG g n0 z0) _ (L_30.out) (L_31.out.congr HEX.out)).mono ?_
      intro e w8 hq
      obtain ⟨rfl, bw8⟩ := hq.below
      clear hq
      have sw8 : w7.heap.size ≤ w8.heap.size := bw8.size
      have L_33 := Lib.hid (L_27.out.same (SameIn.below bw8 (by omega)))
      clear L_27
      have L_34 := Lib.hid (L_28.out.same (SameIn.below bw8 (by omega)))
      clear L_28
      have L_35 := Lib.hid (L_29.out.same (SameIn.below bw8 (by omega)))
      clear L_29
      have L_36 := Lib.hid (L_30.out.same (SameIn.below bw8 (by omega)))
      clear L_30
      have L_37 := Lib.hid (L_31.out.same (SameIn.below bw8 (by omega)))
      clear L_31
      have L_38 := Lib.hid (Nw7.out.same (SameIn.below bw8 (by omega)))
      clear Nw7
      have BL_39 := Lib.hid (BL_32.out.trans (bw8.mono (by omega)))
      clear BL_32 bw8
      go_wp2_with fail
      refine (sameFixes_any _ _ _ _ _ _ (L.length) _ _ _ (L_38.out) (L_35.out) (fun _ _ => rfl) (by omega)).mono ?_
      rintro e w9 ⟨rfl, qw9, rfl⟩
      have bw9 := below_drewN (Below.refl w8.heap.size w8) qw9
      obtain ⟨w_w9, ew⟩ : ∃ w', w' = w8.drewN qw9 := ⟨_, rfl⟩
      rw [← ew] at bw9 ⊢
      clear ew
      have sw_w9 : w8.heap.size ≤ w_w9.heap.size := bw9.size
      have L_40 := Lib.hid (L_33.out.same (SameIn.below bw9 (by omega)))
      clear L_33
      have L_41 := Lib.hid (L_34.out.same (SameIn.below bw9 (by omega)))
      clear L_34
      have L_42 := Lib.hid (L_35.out.same (SameIn.below bw9 (by omega)))
      clear L_35
      have L_43 := Lib.hid (L_36.out.same (SameIn.below bw9 (by omega)))
      clear L_36
      have L_44 := Lib.hid (L_37.out.same (SameIn.below bw9 (by omega)))
      clear L_37
      have L_45 := Lib.hid (L_38.out.same (SameIn.below bw9 (by omega)))
      clear L_38
      have BL_46 := Lib.hid (BL_39.out.trans (bw9.mono (by omega)))
      clear BL_39 bw9
      go_wp2_with fail
      refine (implAre_b _ _ 0 w_w9.heap.size L.length g (fzZ L) _ (L_40.out.mono (Nat.zero_le _) (by omega)) (L_42.out.mono (Nat.zero_le _) (by omega)) (Nat.le_refl _) (by omega) true HAR.out).mono ?_
      rintro e w10 ⟨rfl, bw10⟩
      have sw10 : w_w9.heap.size ≤ w10.heap.size := bw10.size
      have L_47 := Lib.hid (L_40.out.same (SameIn.below bw10 (by omega)))
      clear L_40
      have L_48 := Lib.hid (L_41.out.same (SameIn.below bw10 (by omega)))
      clear L_41
      have L_49 := Lib.hid (L_42.out.same (SameIn.below bw10 (by omega)))
      clear L_42
      have L_50 := Lib.hid (L_43.out.same (SameIn.below bw10 (by omega)))
      clear L_43
      have L_51 := Lib.hid (L_44.out.same (SameIn.below bw10 (by omega)))
      clear L_44
      have L_52 := Lib.hid (L_45.out.same (SameIn.below bw10 (by omega)))
      clear L_45
      have BL_53 := Lib.hid (BL_46.out.trans (bw10.mono (by omega)))
      clear BL_46 bw10
      go_wp2
      go_ret
      exact ⟨rfl, BL_53.out⟩
end Go.Proofs.Ytidlloelinmnnaa
