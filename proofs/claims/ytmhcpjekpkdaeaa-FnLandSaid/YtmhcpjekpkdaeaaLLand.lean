/- The law FnLand of the promises: its walk. -/
import Derived.Test.YtmhcpjekpkdaeaaPHelp
import Derived.Test.YtmhcpjekpkdaeaaLvI
import Derived.Test.YtmhcpjekpkdaeaaLvS
import Derived.Test.YtmhcpjekpkdaeaaDrawL
namespace Go.Proofs.Ytmhcpjekpkdaeaa
open Go.RowKit
set_option linter.unusedVariables false

theorem landN_all {Z : Nat → Int} {lv : Int} : ∀ {n : Nat}, (∀ i, i < n → lv ≤ Z i) → landN Z lv n = n
  | 0, _ => rfl
  | n + 1, h => by rw [landN_yes (h n (Nat.lt_succ_self n)), landN_all (fun i hi => h i (by omega))]
theorem landN_other {Z Y : Nat → Int} {lv : Int} : ∀ {n : Nat}, (∀ i, i < n → Y i = 99 - Z i) → landN Z lv n + landN Y (99 - lv + 1) n = n
  | 0, _ => rfl
  | n + 1, h => by
    have h1 := landN_other (lv := lv) (n := n) (fun i hi => h i (by omega))
    have h2 := h n (Nat.lt_succ_self n)
    by_cases e : lv ≤ Z n
    · rw [landN_yes e, landN_no (by omega)]; omega
    · rw [landN_no e, landN_yes (by omega)]; omega
theorem landN_down (Z : Nat → Int) {a b : Int} (h : a ≤ b) : ∀ n : Nat, landN Z b n ≤ landN Z a n
  | 0 => Nat.le_refl _
  | n + 1 => by
    have h1 := landN_down Z h n
    by_cases e : b ≤ Z n
    · rw [landN_yes e, landN_yes (by omega)]; omega
    · have h2 : landN Z a (n + 1) = landN Z a n + (if a ≤ Z n then 1 else 0) := rfl
      rw [landN_no e, h2]; omega
theorem ldV_down {g : G} {lv : Int} (h : g.LvOk lv) : g.ldV (lv + 1) ≤ g.ldV lv := by
  rw [G.ldV_yes h]
  by_cases e : g.LvOk (lv + 1)
  · rw [G.ldV_yes e]
    have := landN_down g.flat (show lv ≤ lv + 1 by omega) (g.n * g.len 0)
    omega
  · rw [G.ldV_no e]; omega
theorem ldV_all {g : G} (h : g.Valid) : g.ldV 0 = (g.n * g.len 0 : Nat) := by
  rw [G.ldV_yes ⟨h, by omega, by omega⟩, landN_all (fun i hi => (G.flat_ok h hi).1)]
theorem ldV_other {g : G} {lv : Int} (h : g.LvOk lv) (hl : 1 ≤ lv) : g.ldV lv + (invertG g).ldV (99 - lv + 1) = (g.n * g.len 0 : Nat) := by
  have h2 : (invertG g).LvOk (99 - lv + 1) := ⟨invert_valid h.1, by have := h.2.2; omega, by omega⟩
  have h3 : landN g.flat lv (g.n * g.len 0) + landN (invertG g).flat (99 - lv + 1) (g.n * g.len 0) = g.n * g.len 0 := landN_other (fun i _ => rfl)
  rw [G.ldV_yes h, G.ldV_yes h2]
  have h4 : (invertG g).n * (invertG g).len 0 = g.n * g.len 0 := rfl
  rw [h4]
  omega

set_option maxHeartbeats 4000000 in
set_option maxRecDepth 100000 in
theorem law_FnLand (v : Value) (n : Nat) (w : World) (hv : RdB w.heap.size w v n) : Calls Try.prog 4 #[v] w (LawPost w) := by
  have HD := Lib.hid (draw_DrawLevelLand v n w.heap.size w hv (Nat.le_refl _))
  obtain ⟨ao, cap, cb, off, Z, rfl, hc1, hc2, _⟩ := hv
  by_cases hn : 1048576 < n
  · have hn' : (1048576 : Int) < n := by omega
    go_enter Try.func4, Try.ntmps4
    go_wp2
    go_ret
    exact ⟨rfl, Below.refl _ _⟩
  · have hn' : ¬ (1048576 : Int) < n := by omega
    go_enter Try.func4, Try.ntmps4
    go_wp2_with fail
    refine HD.out.mono ?_
    rintro e w1 ⟨vg, g, lv, rfl, _, hm, hgn, hgl, ⟨hk1, hk2⟩, bw1⟩
    obtain ⟨bg, og, cg, rfl⟩ := hm.shape (by omega)
    have R_g := Lib.hid hm
    obtain ⟨hgn1, hgn5⟩ := hgn
    clear hm hgl HD
    have sw1 : w.heap.size ≤ w1.heap.size := bw1.size
    have BL := Lib.hid bw1
    clear bw1
    by_cases hok : g.LvOk lv
    case neg =>
      have HE := Lib.hid (G.ldV_no hok)
      clear hok
      go_wp2_with fail
      refine (implLevelLand_any _ 0 w1.heap.size g lv _ (R_g.out.mono (Nat.zero_le _) (by omega)) (Nat.le_refl _)).mono ?_
      rintro e w2 ⟨rfl, bw2⟩
      have sw2 : w1.heap.size ≤ w2.heap.size := bw2.size
      have L_1 := Lib.hid (R_g.out.same (SameIn.below bw2 (by omega)))
      clear R_g
      have BL_2 := Lib.hid (BL.out.trans (bw2.mono (by omega)))
      clear BL bw2
      rw [HE.out]
      go_wp2_with fail
      refine (specLevelLand_any _ 0 w2.heap.size g lv _ (L_1.out.mono (Nat.zero_le _) (by omega)) (Nat.le_refl _)).mono ?_
      rintro e w3 ⟨rfl, bw3⟩
      have sw3 : w2.heap.size ≤ w3.heap.size := bw3.size
      have L_3 := Lib.hid (L_1.out.same (SameIn.below bw3 (by omega)))
      clear L_1
      have BL_4 := Lib.hid (BL_2.out.trans (bw3.mono (by omega)))
      clear BL_2 bw3
      rw [HE.out]
      go_wp2
      go_ret
      exact ⟨rfl, BL_4.out⟩
    case pos =>
      have HV := Lib.hid hok.1
      have hlv := hok.2
      obtain ⟨hlv1, hlv2⟩ := hlv
      have h49 := mul_le_49 hok.1.1.2 hok.1.2.1.2
      obtain ⟨N, eN⟩ : ∃ N, g.n * g.len 0 = N := ⟨_, rfl⟩
      have HN := Lib.hid eN
      rw [eN] at h49
      obtain ⟨y, ey⟩ : ∃ y, g.ldV lv = y := ⟨_, rfl⟩
      have HY := Lib.hid ey
      have hy : 0 ≤ y ∧ y ≤ N := by
        rw [← ey, G.ldV_yes hok, eN]
        have := landN_le g.flat lv N
        omega
      obtain ⟨hy0, hyN⟩ := hy
      have HD := Lib.hid (show g.ldV (lv + 1) ≤ y from ey ▸ ldV_down hok)
      have HA := Lib.hid (show g.ldV 0 = (N : Int) from eN ▸ ldV_all hok.1)
      have HO := Lib.hid (show lv = 0 ∨ y + (invertG g).ldV (99 - lv + 1) = (N : Int) from by
        by_cases e : lv = 0
        · exact Or.inl e
        · exact Or.inr (ey ▸ eN ▸ ldV_other hok (by omega)))
      clear hok eN ey
      go_wp2_with fail
      refine (implLevelLand_any _ 0 w1.heap.size g lv _ (R_g.out.mono (Nat.zero_le _) (by omega)) (Nat.le_refl _)).mono ?_
      rintro e w2 ⟨rfl, bw2⟩
      have sw2 : w1.heap.size ≤ w2.heap.size := bw2.size
      have L_1 := Lib.hid (R_g.out.same (SameIn.below bw2 (by omega)))
      clear R_g
      have BL_2 := Lib.hid (BL.out.trans (bw2.mono (by omega)))
      clear BL bw2
      rw [HY.out]
      go_wp2_with fail
      refine (specLevelLand_any _ 0 w2.heap.size g lv _ (L_1.out.mono (Nat.zero_le _) (by omega)) (Nat.le_refl _)).mono ?_
      rintro e w3 ⟨rfl, bw3⟩
      have sw3 : w2.heap.size ≤ w3.heap.size := bw3.size
      have L_3 := Lib.hid (L_1.out.same (SameIn.below bw3 (by omega)))
      clear L_1
      have BL_4 := Lib.hid (BL_2.out.trans (bw3.mono (by omega)))
      clear BL_2 bw3
      rw [HY.out]
      have hx1 : (y != y) = false := by simp
      have hx2 : decide (y < 0) = false := by simp; omega
      go_wp2_with fail
      refine (implLevelLand_any _ 0 w3.heap.size g (lv + 1) _ (L_3.out.mono (Nat.zero_le _) (by omega)) (Nat.le_refl _)).mono ?_
      rintro e w4 ⟨rfl, bw4⟩
      have sw4 : w3.heap.size ≤ w4.heap.size := bw4.size
      have L_5 := Lib.hid (L_3.out.same (SameIn.below bw4 (by omega)))
      clear L_3
      have BL_6 := Lib.hid (BL_4.out.trans (bw4.mono (by omega)))
      clear BL_4 bw4
      have hx := HD.out
      obtain ⟨x, ex⟩ : ∃ x, g.ldV (lv + 1) = x := ⟨_, rfl⟩
      rw [ex] at hx ⊢
      clear ex
      go_wp2_with fail
      refine (implGridInvert_yes _ 0 w4.heap.size g _ (L_5.out.mono (Nat.zero_le _) (by omega)) (Nat.le_refl _) HV.out).mono ?_
      rintro e w5 ⟨r_7, rfl, ⟨_, _, _, rfl⟩, ow5, bw5⟩
      have Nw5 := Lib.hid (ow5.rd)
      clear ow5
      have sw5 : w4.heap.size ≤ w5.heap.size := bw5.size
      have L_8 := Lib.hid (L_5.out.same (SameIn.below bw5 (by omega)))
      clear L_5
      have BL_9 := Lib.hid (BL_6.out.trans (bw5.mono (by omega)))
      clear BL_6 bw5
      go_wp2_with fail
      refine (implLevelLand_any _ 0 w5.heap.size (invertG g) (99 - lv + 1) _ (Nw5.out.mono (Nat.zero_le _) (by omega)) (Nat.le_refl _)).mono ?_
      rintro e w6 ⟨rfl, bw6⟩
      have sw6 : w5.heap.size ≤ w6.heap.size := bw6.size
      have L_10 := Lib.hid (L_8.out.same (SameIn.below bw6 (by omega)))
      clear L_8
      have L_11 := Lib.hid (Nw5.out.same (SameIn.below bw6 (by omega)))
      clear Nw5
      have BL_12 := Lib.hid (BL_9.out.trans (bw6.mono (by omega)))
      clear BL_9 bw6
      have hz := HO.out
      obtain ⟨z, ez⟩ : ∃ z, (invertG g).ldV (99 - lv + 1) = z := ⟨_, rfl⟩
      rw [ez] at hz ⊢
      clear ez
      have hx3 : decide (x ≤ y) = true := by simp; omega
      go_wp2_with fail
      refine (implLevelLand_any _ 0 w6.heap.size g 0 _ (L_10.out.mono (Nat.zero_le _) (by omega)) (Nat.le_refl _)).mono ?_
      rintro e w7 ⟨rfl, bw7⟩
      have sw7 : w6.heap.size ≤ w7.heap.size := bw7.size
      have L_13 := Lib.hid (L_10.out.same (SameIn.below bw7 (by omega)))
      clear L_10
      have BL_14 := Lib.hid (BL_12.out.trans (bw7.mono (by omega)))
      clear BL_12 bw7
      rw [HA.out]
      go_wp2_with fail
      refine (cellsOf_any _ 0 _ g _ L_13.out HV.out).mono ?_
      rintro e w50 ⟨rfl, rfl⟩
      rw [HN.out]
      have hx4 : ((N : Int) == N) = true := by simp
      by_cases e0 : lv = 0
      · subst e0
        go_wp2
        go_ret
        exact ⟨rfl, BL_14.out⟩
      · have hx5 : (lv == 0) = false := by rw [beq_eq_false_iff_ne]; exact e0
        have hyz : y + z = (N : Int) := by
          rcases hz with h | h
          · exact (e0 h).elim
          · exact h
        clear hz
        go_wp2_with fail
        refine (cellsOf_any _ 0 _ g _ L_13.out HV.out).mono ?_
        rintro e w51 ⟨rfl, rfl⟩
        rw [HN.out]
        have hx6 : (y + z == (N : Int)) = true := by rw [hyz]; simp
        go_wp2
        go_ret
        exact ⟨rfl, BL_14.out⟩
end Go.Proofs.Ytmhcpjekpkdaeaa

