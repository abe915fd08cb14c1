/- The law FnShore of the promises: its walk. -/
import Derived.Test.YtmhcpjekpkdaeaaPHelp
import Derived.Test.YtmhcpjekpkdaeaaLvI2
import Derived.Test.YtmhcpjekpkdaeaaLvS
import Derived.Test.YtmhcpjekpkdaeaaLvI4b
import Derived.Test.YtmhcpjekpkdaeaaLvI
import Derived.Test.YtmhcpjekpkdaeaaDrawL
import Derived.Test.YtmhcpjekpkdaeaaSumM
namespace Go.Proofs.Ytmhcpjekpkdaeaa
open Go.RowKit
set_option linter.unusedVariables false

theorem turn_flat_Shore {g : G} : ∀ r c, r < g.len 0 → c < g.n → (turnG g).flat (r * g.n + c) = g.flat ((g.n - 1 - c) * g.len 0 + r) := fun r c hr hc => by
  have h1 := G.flat_at (turnG g) r c hc
  rw [G.flat_at g (g.n - 1 - c) r hr]
  exact h1
theorem mirror_flat_Shore {g : G} : ∀ r c, r < g.n → c < g.len 0 → (mirrorG g).flat (r * g.len 0 + c) = g.flat (r * g.len 0 + (g.len 0 - 1 - c)) := fun r c hr hc => by
  have h1 := G.flat_at (mirrorG g) r c hc
  rw [G.flat_at g r (g.len 0 - 1 - c) (by omega)]
  exact h1
theorem ldV_S_Shore {g : G} {lv : Int} (h : g.LvOk lv) : g.ldV lv = (Sl g.n (g.len 0) g.flat lv : Nat) := by rw [G.ldV_yes h, landN_S]
theorem sdV_S_Shore {g : G} {lv : Int} (h : g.LvOk lv) : g.sdV lv = (Sh g.n (g.len 0) g.flat lv + Sv g.n (g.len 0) g.flat lv : Nat) := by rw [G.sdV_yes h, sidesN_S]
theorem cnV_S_Shore {g : G} {lv : Int} (h : g.LvOk lv) : g.cnV lv = (Sc g.n (g.len 0) g.flat lv : Nat) := by rw [G.cnV_yes h, cornN_S g.n]
theorem turn_lv_Shore {g : G} {lv : Int} (h : g.LvOk lv) : (turnG g).LvOk lv := ⟨turn_valid h.1, h.2⟩
theorem mirror_lv_Shore {g : G} {lv : Int} (h : g.LvOk lv) : (mirrorG g).LvOk lv := ⟨mirror_valid h.1, h.2⟩
theorem sdV_mirror_Shore {g : G} {lv : Int} (h : g.LvOk lv) : (mirrorG g).sdV lv = g.sdV lv := by
  rw [sdV_S_Shore h, sdV_S_Shore (mirror_lv_Shore h)]
  have h1 : Sh (mirrorG g).n ((mirrorG g).len 0) (mirrorG g).flat lv = Sh g.n (g.len 0) g.flat lv := Sh_mirror (R := g.n) (C := g.len 0) (Z := g.flat) (Y := (mirrorG g).flat) lv mirror_flat_Shore
  have h2 : Sv (mirrorG g).n ((mirrorG g).len 0) (mirrorG g).flat lv = Sv g.n (g.len 0) g.flat lv := Sv_mirror (R := g.n) (C := g.len 0) (Z := g.flat) (Y := (mirrorG g).flat) lv mirror_flat_Shore
  rw [h1, h2]
theorem cnV_turn_Shore {g : G} {lv : Int} (h : g.LvOk lv) : (turnG g).cnV lv = g.cnV lv := by
  rw [cnV_S_Shore h, cnV_S_Shore (turn_lv_Shore h)]
  have h1 : Sc (turnG g).n ((turnG g).len 0) (turnG g).flat lv = Sc g.n (g.len 0) g.flat lv := Sc_turn (R := g.n) (C := g.len 0) (Z := g.flat) (Y := (turnG g).flat) lv turn_flat_Shore
  rw [h1]
theorem shV_S_Shore {g : G} {lv : Int} (h : g.LvOk lv) : g.shV lv = 4 * g.ldV lv - 2 * g.sdV lv := by
  rw [G.shV_yes h, ldV_S_Shore h, sdV_S_Shore h]
  have := shoreN_S g.n (g.len 0) g.flat lv
  omega
theorem shV_turn_Shore {g : G} {lv : Int} (h : g.LvOk lv) : (turnG g).shV lv = g.shV lv := by
  rw [shV_S_Shore h, shV_S_Shore (turn_lv_Shore h), ldV_S_Shore h, ldV_S_Shore (turn_lv_Shore h), sdV_S_Shore h, sdV_S_Shore (turn_lv_Shore h)]
  have h1 : Sl (turnG g).n ((turnG g).len 0) (turnG g).flat lv = Sl g.n (g.len 0) g.flat lv := Sl_turn (R := g.n) (C := g.len 0) (Z := g.flat) (Y := (turnG g).flat) lv turn_flat_Shore
  have h2 : Sh (turnG g).n ((turnG g).len 0) (turnG g).flat lv = Sv g.n (g.len 0) g.flat lv := Sh_turn (R := g.n) (C := g.len 0) (Z := g.flat) (Y := (turnG g).flat) lv turn_flat_Shore
  have h3 : Sv (turnG g).n ((turnG g).len 0) (turnG g).flat lv = Sh g.n (g.len 0) g.flat lv := Sv_turn (R := g.n) (C := g.len 0) (Z := g.flat) (Y := (turnG g).flat) lv turn_flat_Shore
  rw [h1, h2, h3]; omega
theorem sdV_le_Shore {g : G} {lv : Int} (h : g.LvOk lv) : g.sdV lv ≤ 2 * g.ldV lv := by
  rw [sdV_S_Shore h, ldV_S_Shore h]
  have h1 := Sh_le g.n (g.len 0) g.flat lv
  have h2 := Sv_le g.n (g.len 0) g.flat lv
  omega
theorem cnV_le_Shore {g : G} {lv : Int} (h : g.LvOk lv) : g.cnV lv ≤ g.sdV lv := by
  rw [sdV_S_Shore h, cnV_S_Shore h]
  have h1 := Sc_le g.n (g.len 0) g.flat lv
  omega
theorem sdV_down_Shore {g : G} {lv : Int} (h : g.LvOk lv) : g.sdV (lv + 1) ≤ g.sdV lv := by
  by_cases e : g.LvOk (lv + 1)
  · rw [sdV_S_Shore h, sdV_S_Shore e]
    have h1 := Sh_down g.n (g.len 0) g.flat (show lv ≤ lv + 1 by omega)
    have h2 := Sv_down g.n (g.len 0) g.flat (show lv ≤ lv + 1 by omega)
    omega
  · rw [G.sdV_no e, sdV_S_Shore h]; omega
theorem cnV_down_Shore {g : G} {lv : Int} (h : g.LvOk lv) : g.cnV (lv + 1) ≤ g.cnV lv := by
  by_cases e : g.LvOk (lv + 1)
  · rw [cnV_S_Shore h, cnV_S_Shore e]
    have h1 := Sc_down g.n (g.len 0) g.flat (show lv ≤ lv + 1 by omega)
    omega
  · rw [G.cnV_no e, cnV_S_Shore h]; omega
theorem sl_le_Shore {g : G} {lv : Int} (h : g.LvOk lv) : 0 ≤ g.ldV lv ∧ g.ldV lv ≤ 49 := by
  rw [G.ldV_yes h]
  have h1 := landN_le g.flat lv (g.n * g.len 0)
  have h2 := mul_le_49 h.1.1.2 h.1.2.1.2
  omega

set_option maxHeartbeats 4000000 in
set_option maxRecDepth 100000 in
theorem law_FnShore (v : Value) (n : Nat) (w : World) (hv : RdB w.heap.size w v n) : Calls Try.prog 7 #[v] w (LawPost w) := by
  have HD := Lib.hid (draw_DrawLevelShore v n w.heap.size w hv (Nat.le_refl _))
  obtain ⟨ao, cap, cb, off, Z, rfl, hc1, hc2, _⟩ := hv
  by_cases hn : 1048576 < n
  · have hn' : (1048576 : Int) < n := by omega
    go_enter Try.func7, Try.ntmps7
    go_wp2
    go_ret
    exact ⟨rfl, Below.refl _ _⟩
  · have hn' : ¬ (1048576 : Int) < n := by omega
    go_enter Try.func7, Try.ntmps7
    go_wp2_with fail
    refine HD.out.mono ?_
    rintro e w1 ⟨vg, g, lv, rfl, _, hm, hgn, hgl, ⟨hk1, hk2⟩, bw1⟩
    obtain ⟨bg, og, cg, rfl⟩ := hm.shape (by omega)
    have R_g := Lib.hid hm
    obtain ⟨hgn1, hgn5⟩ := hgn
    clear hm hgl HD
    have sw1 : w.heap.size ≤ w1.heap.size := bw1.size
    have BL := Lib.hid bw1
    clear bw1
    by_cases hok : g.LvOk lv
    case neg =>
      have HE := Lib.hid (G.shV_no hok)
      clear hok
      go_wp2_with fail
      refine (implLevelShore_any _ 0 w1.heap.size g lv _ (R_g.out.mono (Nat.zero_le _) (by omega)) (Nat.le_refl _)).mono ?_
      rintro e w2 ⟨rfl, bw2⟩
      have sw2 : w1.heap.size ≤ w2.heap.size := bw2.size
      have L_1 := Lib.hid (R_g.out.same (SameIn.below bw2 (by omega)))
      clear R_g
      have BL_2 := Lib.hid (BL.out.trans (bw2.mono (by omega)))
      clear BL bw2
      rw [HE.out]
      go_wp2_with fail
      refine (specLevelShore_any _ 0 w2.heap.size g lv _ (L_1.out.mono (Nat.zero_le _) (by omega)) (Nat.le_refl _)).mono ?_
      rintro e w3 ⟨rfl, bw3⟩
      have sw3 : w2.heap.size ≤ w3.heap.size := bw3.size
      have L_3 := Lib.hid (L_1.out.same (SameIn.below bw3 (by omega)))
      clear L_1
      have BL_4 := Lib.hid (BL_2.out.trans (bw3.mono (by omega)))
      clear BL_2 bw3
      rw [HE.out]
      go_wp2
      go_ret
      exact ⟨rfl, BL_4.out⟩
    case pos =>
      have HOK := Lib.hid hok
      have HV := Lib.hid hok.1
      have hlv := hok.2
      obtain ⟨hlv1, hlv2⟩ := hlv
      obtain ⟨y, ey⟩ : ∃ y, g.shV lv = y := ⟨_, rfl⟩
      have HY := Lib.hid ey
      obtain ⟨d, ed⟩ : ∃ d, g.ldV lv = d := ⟨_, rfl⟩
      have HLD := Lib.hid ed
      have hd := sl_le_Shore hok
      rw [ed] at hd
      obtain ⟨hd0, hd49⟩ := hd
      have hs := sdV_le_Shore hok
      rw [ed] at hs
      obtain ⟨s, es⟩ : ∃ s, g.sdV lv = s := ⟨_, rfl⟩
      have HSD := Lib.hid es
      rw [es] at hs
      have hs0 : 0 ≤ s := by rw [← es, sdV_S_Shore hok]; omega
      have hyd : y = 4 * d - 2 * s := by rw [← ey, ← ed, ← es]; exact shV_S_Shore hok
      have hy0 : 0 ≤ y := by omega
      have hym : y % 2 = 0 := by omega
      have HM := Lib.hid (show (turnG g).shV lv = y from (shV_turn_Shore hok).trans ey)
      clear es
      clear hok ey ed
      go_wp2_with fail
      refine (implLevelShore_any _ 0 w1.heap.size g lv _ (R_g.out.mono (Nat.zero_le _) (by omega)) (Nat.le_refl _)).mono ?_
      rintro e w2 ⟨rfl, bw2⟩
      have sw2 : w1.heap.size ≤ w2.heap.size := bw2.size
      have L_1 := Lib.hid (R_g.out.same (SameIn.below bw2 (by omega)))
      clear R_g
      have BL_2 := Lib.hid (BL.out.trans (bw2.mono (by omega)))
      clear BL bw2
      rw [HY.out]
      go_wp2_with fail
      refine (specLevelShore_any _ 0 w2.heap.size g lv _ (L_1.out.mono (Nat.zero_le _) (by omega)) (Nat.le_refl _)).mono ?_
      rintro e w3 ⟨rfl, bw3⟩
      have sw3 : w2.heap.size ≤ w3.heap.size := bw3.size
      have L_3 := Lib.hid (L_1.out.same (SameIn.below bw3 (by omega)))
      clear L_1
      have BL_4 := Lib.hid (BL_2.out.trans (bw3.mono (by omega)))
      clear BL_2 bw3
      rw [HY.out]
      have hx1 : (y != y) = false := by simp
      have hx2 : decide (y < 0) = false := by simp; omega
      have hx3 : (y == y) = true := by simp
      go_wp2_with fail
      refine (implGridTurn_yes _ 0 w3.heap.size g _ (L_3.out.mono (Nat.zero_le _) (by omega)) (Nat.le_refl _) HV.out).mono ?_
      rintro e w4 ⟨r_5, rfl, ⟨_, _, _, rfl⟩, ow4, bw4⟩
      have Nw4 := Lib.hid (ow4.rd)
      clear ow4
      have sw4 : w3.heap.size ≤ w4.heap.size := bw4.size
      have L_6 := Lib.hid (L_3.out.same (SameIn.below bw4 (by omega)))
      clear L_3
      have BL_7 := Lib.hid (BL_4.out.trans (bw4.mono (by omega)))
      clear BL_4 bw4
      go_wp2_with fail
      refine (implLevelLand_any _ 0 w4.heap.size g lv _ (L_6.out.mono (Nat.zero_le _) (by omega)) (Nat.le_refl _)).mono ?_
      rintro e w5 ⟨rfl, bw5⟩
      have sw5 : w4.heap.size ≤ w5.heap.size := bw5.size
      have L_8 := Lib.hid (L_6.out.same (SameIn.below bw5 (by omega)))
      clear L_6
      have L_9 := Lib.hid (Nw4.out.same (SameIn.below bw5 (by omega)))
      clear Nw4
      have BL_10 := Lib.hid (BL_7.out.trans (bw5.mono (by omega)))
      clear BL_7 bw5
      rw [HLD.out]
      go_wp2_with fail
      refine (implLevelSides_any _ 0 w5.heap.size g lv _ (L_8.out.mono (Nat.zero_le _) (by omega)) (Nat.le_refl _)).mono ?_
      rintro e w6 ⟨rfl, bw6⟩
      have sw6 : w5.heap.size ≤ w6.heap.size := bw6.size
      have L_11 := Lib.hid (L_8.out.same (SameIn.below bw6 (by omega)))
      clear L_8
      have L_12 := Lib.hid (L_9.out.same (SameIn.below bw6 (by omega)))
      clear L_9
      have BL_13 := Lib.hid (BL_10.out.trans (bw6.mono (by omega)))
      clear BL_10 bw6
      rw [HSD.out]
      have hx4 : (y == 4 * d - 2 * s) = true := by simp; omega
      have hx5 : (y % 2 == 0) = true := by simp; omega
      have hx6 : y.tmod 2 = 0 := by rw [Int.tmod_eq_emod_of_nonneg hy0]; exact hym
      go_wp2_with fail
      refine (implLevelShore_any _ 0 w6.heap.size (turnG g) lv _ (L_12.out.mono (Nat.zero_le _) (by omega)) (Nat.le_refl _)).mono ?_
      rintro e w7 ⟨rfl, bw7⟩
      have sw7 : w6.heap.size ≤ w7.heap.size := bw7.size
      have L_14 := Lib.hid (L_11.out.same (SameIn.below bw7 (by omega)))
      clear L_11
      have L_15 := Lib.hid (L_12.out.same (SameIn.below bw7 (by omega)))
      clear L_12
      have BL_16 := Lib.hid (BL_13.out.trans (bw7.mono (by omega)))
      clear BL_13 bw7
      rw [HM.out]
      go_wp2
      go_ret
      exact ⟨rfl, BL_16.out⟩
end Go.Proofs.Ytmhcpjekpkdaeaa

