/- The law FnRegions of the promises: its walk. -/
import Derived.Test.YtplfphpnpjjinaaPHelp
import Derived.Test.YtplfphpnpjjinaaRegE
import Derived.Test.YtplfphpnpjjinaaRegS
import Derived.Test.YtplfphpnpjjinaaLvI
import Derived.Test.YtplfphpnpjjinaaDrawH
import Derived.Test.YtplfphpnpjjinaaSumR
namespace Go.Proofs.Ytplfphpnpjjinaa
open Go.RowKit
set_option linter.unusedVariables false

theorem turn_flat_R {g : G} : ∀ r c, r < g.len 0 → c < g.n → (turnG g).flat (r * g.n + c) = g.flat ((g.n - 1 - c) * g.len 0 + r) := fun r c hr hc => by
  have h1 := G.flat_at (turnG g) r c hc
  rw [G.flat_at g (g.n - 1 - c) r hr]
  exact h1
theorem mirror_flat_R {g : G} : ∀ r c, r < g.n → c < g.len 0 → (mirrorG g).flat (r * g.len 0 + c) = g.flat (r * g.len 0 + (g.len 0 - 1 - c)) := fun r c hr hc => by
  have h1 := G.flat_at (mirrorG g) r c hc
  rw [G.flat_at g r (g.len 0 - 1 - c) (by omega)]
  exact h1
theorem turn_lv_R {g : G} {lv : Int} (h : g.LvOk lv) : (turnG g).LvOk lv := ⟨turn_valid h.1, h.2⟩
theorem mirror_lv_R {g : G} {lv : Int} (h : g.LvOk lv) : (mirrorG g).LvOk lv := ⟨mirror_valid h.1, h.2⟩
theorem rgV_turn {g : G} {lv : Int} (h : g.LvOk lv) : (turnG g).rgV lv = g.rgV lv := by
  rw [G.rgV_yes h, G.rgV_yes (turn_lv_R h)]
  have h1 : rgN (turnG g).n ((turnG g).len 0) (turnG g).flat lv ((turnG g).n * (turnG g).len 0) = rgN g.n (g.len 0) g.flat lv (g.n * g.len 0) := rgN_turn (R := g.n) (C := g.len 0) (Z := g.flat) (Y := (turnG g).flat) lv turn_flat_R
  rw [h1]
theorem rgV_mirror {g : G} {lv : Int} (h : g.LvOk lv) : (mirrorG g).rgV lv = g.rgV lv := by
  rw [G.rgV_yes h, G.rgV_yes (mirror_lv_R h)]
  have h1 : rgN (mirrorG g).n ((mirrorG g).len 0) (mirrorG g).flat lv ((mirrorG g).n * (mirrorG g).len 0) = rgN g.n (g.len 0) g.flat lv (g.n * g.len 0) := rgN_mirror (R := g.n) (C := g.len 0) (Z := g.flat) (Y := (mirrorG g).flat) lv mirror_flat_R
  rw [h1]
theorem rgV_facts {g : G} {lv : Int} (h : g.LvOk lv) : 0 ≤ g.rgV lv ∧ g.rgV lv ≤ g.ldV lv ∧ g.ldV lv ≤ 49 ∧ (g.rgV lv = 0 ↔ g.ldV lv = 0) := by
  rw [G.rgV_yes h, G.ldV_yes h]
  have h1 := landN_le g.flat lv (g.n * g.len 0)
  have h2 := mul_le_49 h.1.1.2 h.1.2.1.2
  have h3 := rgN_le_land g.n (g.len 0) g.flat lv (g.n * g.len 0)
  have h4 := rgN_zero g.n (g.len 0) g.flat lv (g.n * g.len 0)
  refine ⟨by omega, by omega, by omega, by omega⟩

set_option maxHeartbeats 4000000 in
set_option maxRecDepth 100000 in
theorem law_FnRegions (v : Value) (n : Nat) (w : World) (hv : RdB w.heap.size w v n) : Calls Try.prog 3 #[v] w (LawPost w) := by
  have HD := Lib.hid (draw_DrawLevelRegions v n w.heap.size w hv (Nat.le_refl _))
  obtain ⟨ao, cap, cb, off, Z, rfl, hc1, hc2, _⟩ := hv
  by_cases hn : 1048576 < n
  · have hn' : (1048576 : Int) < n := by omega
    go_enter Try.func3, Try.ntmps3
    go_wp2
    go_ret
    exact ⟨rfl, Below.refl _ _⟩
  · have hn' : ¬ (1048576 : Int) < n := by omega
    go_enter Try.func3, Try.ntmps3
    go_wp2_with fail
    refine HD.out.mono ?_
    rintro e w1 ⟨vg, g, lv, rfl, _, hm, hgn, hgl, ⟨hk1, hk2⟩, bw1⟩
    obtain ⟨bg, og, cg, rfl⟩ := hm.shape (by omega)
    have R_g := Lib.hid hm
    obtain ⟨hgn1, hgn5⟩ := hgn
    clear hm hgl HD
    have sw1 : w.heap.size ≤ w1.heap.size := bw1.size
    have BL := Lib.hid bw1
    clear bw1
    by_cases hok : g.LvOk lv
    case neg =>
      have HE := Lib.hid (G.rgV_no hok)
      clear hok
      go_wp2_with fail
      refine (implLevelRegions_any _ 0 w1.heap.size g lv _ (R_g.out.mono (Nat.zero_le _) (by omega)) (Nat.le_refl _)).mono ?_
      rintro e w2 ⟨rfl, bw2⟩
      have sw2 : w1.heap.size ≤ w2.heap.size := bw2.size
      have L_1 := Lib.hid (R_g.out.same (SameIn.below bw2 (by omega)))
      clear R_g
      have BL_2 := Lib.hid (BL.out.trans (bw2.mono (by omega)))
      clear BL bw2
      rw [HE.out]
      go_wp2_with fail
      refine (specLevelRegions_any _ 0 w2.heap.size g lv _ (L_1.out.mono (Nat.zero_le _) (by omega)) (Nat.le_refl _)).mono ?_
      rintro e w3 ⟨rfl, bw3⟩
      have sw3 : w2.heap.size ≤ w3.heap.size := bw3.size
      have L_3 := Lib.hid (L_1.out.same (SameIn.below bw3 (by omega)))
      clear L_1
      have BL_4 := Lib.hid (BL_2.out.trans (bw3.mono (by omega)))
      clear BL_2 bw3
      rw [HE.out]
      go_wp2
      go_ret
      exact ⟨rfl, BL_4.out⟩
    case pos =>
      have HOK := Lib.hid hok
      have HV := Lib.hid hok.1
      have hf := rgV_facts hok
      obtain ⟨y, ey⟩ : ∃ y, g.rgV lv = y := ⟨_, rfl⟩
      have HY := Lib.hid ey
      obtain ⟨d, ed⟩ : ∃ d, g.ldV lv = d := ⟨_, rfl⟩
      have HLD := Lib.hid ed
      rw [ey, ed] at hf
      obtain ⟨hy0, hyd, hd49, hz⟩ := hf
      have HT := Lib.hid (show (turnG g).rgV lv = y from (rgV_turn hok).trans ey)
      have HM := Lib.hid (show (mirrorG g).rgV lv = y from (rgV_mirror hok).trans ey)
      have hbb : ((y == 0) = true ∧ (d == 0) = true) ∨ ((y == 0) = false ∧ (d == 0) = false) := by
        by_cases e : y = 0
        · exact Or.inl ⟨by simp [e], by simp [hz.1 e]⟩
        · exact Or.inr ⟨by simp [e], by simp; exact fun e2 => e (hz.2 e2)⟩
      have HBB := Lib.hid hbb
      clear hok ey ed hz hbb
      go_wp2_with fail
      refine (implLevelRegions_any _ 0 w1.heap.size g lv _ (R_g.out.mono (Nat.zero_le _) (by omega)) (Nat.le_refl _)).mono ?_
      rintro e w2 ⟨rfl, bw2⟩
      have sw2 : w1.heap.size ≤ w2.heap.size := bw2.size
      have L_1 := Lib.hid (R_g.out.same (SameIn.below bw2 (by omega)))
      clear R_g
      have BL_2 := Lib.hid (BL.out.trans (bw2.mono (by omega)))
      clear BL bw2
      rw [HY.out]
      go_wp2_with fail
      refine (specLevelRegions_any _ 0 w2.heap.size g lv _ (L_1.out.mono (Nat.zero_le _) (by omega)) (Nat.le_refl _)).mono ?_
      rintro e w3 ⟨rfl, bw3⟩
      have sw3 : w2.heap.size ≤ w3.heap.size := bw3.size
      have L_3 := Lib.hid (L_1.out.same (SameIn.below bw3 (by omega)))
      clear L_1
      have BL_4 := Lib.hid (BL_2.out.trans (bw3.mono (by omega)))
      clear BL_2 bw3
      rw [HY.out]
      have hx1 : (y != y) = false := by simp
      have hx2 : decide (y < 0) = false := by simp; omega
      have hx3 : (y == y) = true := by simp
      have hx4 : decide (y ≤ d) = true := by simp; omega
      go_wp2_with fail
      refine (implGridTurn_yes _ 0 w3.heap.size g _ (L_3.out.mono (Nat.zero_le _) (by omega)) (Nat.le_refl _) HV.out).mono ?_
      rintro e w4 ⟨r_5, rfl, ⟨_, _, _, rfl⟩, ow4, bw4⟩
      have Nw4 := Lib.hid (ow4.rd)
      clear ow4
      have sw4 : w3.heap.size ≤ w4.heap.size := bw4.size
      have L_6 := Lib.hid (L_3.out.same (SameIn.below bw4 (by omega)))
      clear L_3
      have BL_7 := Lib.hid (BL_4.out.trans (bw4.mono (by omega)))
      clear BL_4 bw4
      go_wp2_with fail
      refine (implGridMirror_yes _ 0 w4.heap.size g _ (L_6.out.mono (Nat.zero_le _) (by omega)) (Nat.le_refl _) HV.out).mono ?_
      rintro e w5 ⟨r_8, rfl, ⟨_, _, _, rfl⟩, ow5, bw5⟩
      have Nw5 := Lib.hid (ow5.rd)
      clear ow5
      have sw5 : w4.heap.size ≤ w5.heap.size := bw5.size
      have L_9 := Lib.hid (L_6.out.same (SameIn.below bw5 (by omega)))
      clear L_6
      have L_10 := Lib.hid (Nw4.out.same (SameIn.below bw5 (by omega)))
      clear Nw4
      have BL_11 := Lib.hid (BL_7.out.trans (bw5.mono (by omega)))
      clear BL_7 bw5
      go_wp2_with fail
      refine (implLevelLand_any _ 0 w5.heap.size g lv _ (L_9.out.mono (Nat.zero_le _) (by omega)) (Nat.le_refl _)).mono ?_
      rintro e w6 ⟨rfl, bw6⟩
      have sw6 : w5.heap.size ≤ w6.heap.size := bw6.size
      have L_12 := Lib.hid (L_9.out.same (SameIn.below bw6 (by omega)))
      clear L_9
      have L_13 := Lib.hid (L_10.out.same (SameIn.below bw6 (by omega)))
      clear L_10
      have L_14 := Lib.hid (Nw5.out.same (SameIn.below bw6 (by omega)))
      clear Nw5
      have BL_15 := Lib.hid (BL_11.out.trans (bw6.mono (by omega)))
      clear BL_11 bw6
      rw [HLD.out]
      rcases HBB.out with ⟨hx5, hx6⟩ | ⟨hx5, hx6⟩
      ·
        go_wp2_with fail
        refine (implLevelRegions_any _ 0 w6.heap.size (turnG g) lv _ (L_13.out.mono (Nat.zero_le _) (by omega)) (Nat.le_refl _)).mono ?_
        rintro e w7 ⟨rfl, bw7⟩
        have sw7 : w6.heap.size ≤ w7.heap.size := bw7.size
        have L_16 := Lib.hid (L_13.out.same (SameIn.below bw7 (by omega)))
        clear L_13
        have L_17 := Lib.hid (L_14.out.same (SameIn.below bw7 (by omega)))
        clear L_14
        have BL_18 := Lib.hid (BL_15.out.trans (bw7.mono (by omega)))
        clear BL_15 bw7
        rw [HT.out]
        go_wp2_with fail
        refine (implLevelRegions_any _ 0 w7.heap.size (mirrorG g) lv _ (L_17.out.mono (Nat.zero_le _) (by omega)) (Nat.le_refl _)).mono ?_
        rintro e w8 ⟨rfl, bw8⟩
        have sw8 : w7.heap.size ≤ w8.heap.size := bw8.size
        have L_19 := Lib.hid (L_16.out.same (SameIn.below bw8 (by omega)))
        clear L_16
        have L_20 := Lib.hid (L_17.out.same (SameIn.below bw8 (by omega)))
        clear L_17
        have BL_21 := Lib.hid (BL_18.out.trans (bw8.mono (by omega)))
        clear BL_18 bw8
        rw [HM.out]
        go_wp2
        go_ret
        exact ⟨rfl, BL_21.out⟩
      ·
        go_wp2_with fail
        refine (implLevelRegions_any _ 0 w6.heap.size (turnG g) lv _ (L_13.out.mono (Nat.zero_le _) (by omega)) (Nat.le_refl _)).mono ?_
        rintro e w7 ⟨rfl, bw7⟩
        have sw7 : w6.heap.size ≤ w7.heap.size := bw7.size
        have L_16 := Lib.hid (L_13.out.same (SameIn.below bw7 (by omega)))
        clear L_13
        have L_17 := Lib.hid (L_14.out.same (SameIn.below bw7 (by omega)))
        clear L_14
        have BL_18 := Lib.hid (BL_15.out.trans (bw7.mono (by omega)))
        clear BL_15 bw7
        rw [HT.out]
        go_wp2_with fail
        refine (implLevelRegions_any _ 0 w7.heap.size (mirrorG g) lv _ (L_17.out.mono (Nat.zero_le _) (by omega)) (Nat.le_refl _)).mono ?_
        rintro e w8 ⟨rfl, bw8⟩
        have sw8 : w7.heap.size ≤ w8.heap.size := bw8.size
        have L_19 := Lib.hid (L_16.out.same (SameIn.below bw8 (by omega)))
        clear L_16
        have L_20 := Lib.hid (L_17.out.same (SameIn.below bw8 (by omega)))
        clear L_17
        have BL_21 := Lib.hid (BL_18.out.trans (bw8.mono (by omega)))
        clear BL_18 bw8
        rw [HM.out]
        go_wp2
        go_ret
        exact ⟨rfl, BL_21.out⟩
end Go.Proofs.Ytplfphpnpjjinaa

