/- The law FnGreatest of the promises: its walk. -/
import Derived.Test.YtmhcpjekpkdaeaaPHelp
import Derived.Test.YtmhcpjekpkdaeaaLvI
import Derived.Test.YtmhcpjekpkdaeaaLvS2
import Derived.Test.YtmhcpjekpkdaeaaDrawL
namespace Go.Proofs.Ytmhcpjekpkdaeaa
open Go.RowKit
set_option linter.unusedVariables false

theorem landN_zero {Z : Nat → Int} {lv : Int} : ∀ {n : Nat}, (∀ i, i < n → Z i < lv) → landN Z lv n = 0
  | 0, _ => rfl
  | n + 1, h => by
    have := h n (Nat.lt_succ_self n)
    rw [landN_no (by omega), landN_zero (fun i hi => h i (by omega))]
theorem landN_one {Z : Nat → Int} {lv : Int} : ∀ {n i : Nat}, i < n → lv ≤ Z i → 1 ≤ landN Z lv n
  | 0, i, h, _ => by omega
  | n + 1, i, h, hz => by
    by_cases e : i = n
    · subst e; rw [landN_yes hz]; omega
    · have := landN_one (show i < n by omega) hz
      unfold landN; omega

set_option maxHeartbeats 4000000 in
set_option maxRecDepth 100000 in
theorem law_FnGreatest (v : Value) (n : Nat) (w : World) (hv : RdB w.heap.size w v n) : Calls Try.prog 3 #[v] w (LawPost w) := by
  have HD := Lib.hid (draw_DrawLevelGreatest v n w.heap.size w hv (Nat.le_refl _))
  obtain ⟨ao, cap, cb, off, Z, rfl, hc1, hc2, _⟩ := hv
  by_cases hn : 1048576 < n
  · have hn' : (1048576 : Int) < n := by omega
    go_enter Try.func3, Try.ntmps3
    go_wp2
    go_ret
    exact ⟨rfl, Below.refl _ _⟩
  · have hn' : ¬ (1048576 : Int) < n := by omega
    go_enter Try.func3, Try.ntmps3
    go_wp2_with fail
    refine HD.out.mono ?_
    rintro e w1 ⟨vg, g, rfl, _, hm, hgn, hgl, bw1⟩
    obtain ⟨bg, og, cg, rfl⟩ := hm.shape (by omega)
    have R_g := Lib.hid hm
    have HGL := Lib.hid hgl
    obtain ⟨hgn1, hgn5⟩ := hgn
    clear hm hgl HD
    have sw1 : w.heap.size ≤ w1.heap.size := bw1.size
    have BL := Lib.hid bw1
    clear bw1
    by_cases hval : g.Valid
    case neg =>
      have HVN := Lib.hid hval
      clear hval
      go_wp2_with fail
      refine (implLevelGreatest_any _ 0 w1.heap.size g _ (R_g.out.mono (Nat.zero_le _) (by omega)) (Nat.le_refl _) (-1) (Or.inr ⟨HVN.out, rfl⟩)).mono ?_
      rintro e w2 ⟨rfl, bw2⟩
      have sw2 : w1.heap.size ≤ w2.heap.size := bw2.size
      have L_1 := Lib.hid (R_g.out.same (SameIn.below bw2 (by omega)))
      clear R_g
      have BL_2 := Lib.hid (BL.out.trans (bw2.mono (by omega)))
      clear BL bw2
      go_wp2_with fail
      refine (specLevelGreatest_any _ 0 w2.heap.size g _ (L_1.out.mono (Nat.zero_le _) (by omega)) (-1) (Or.inr ⟨HVN.out, rfl⟩)).mono ?_
      rintro e w3 ⟨rfl, bw3⟩
      have sw3 : w2.heap.size ≤ w3.heap.size := bw3.size
      have L_3 := Lib.hid (L_1.out.same (SameIn.below bw3 (by omega)))
      clear L_1
      have BL_4 := Lib.hid (BL_2.out.trans (bw3.mono (by omega)))
      clear BL_2 bw3
      go_wp2
      go_ret
      exact ⟨rfl, BL_4.out⟩
    case pos =>
      have HV := Lib.hid hval
      have hN : 0 < g.n * g.len 0 := Nat.mul_pos hval.1.1 hval.2.1.1
      obtain ⟨M, eM⟩ : ∃ M, M = mx g.flat (g.n * g.len 0) := ⟨_, rfl⟩
      obtain ⟨lo, elo⟩ : ∃ lo, mn g.flat (g.n * g.len 0) = lo := ⟨_, rfl⟩
      have ELO := Lib.hid elo
      have EM := Lib.hid eM
      have hM : 0 ≤ M ∧ M ≤ 99 := by
        rw [eM]
        obtain ⟨i, h1, h2⟩ := mx_is g.flat _ hN
        rw [← h2]; exact G.flat_ok hval h1
      obtain ⟨hM1, hM2⟩ := hM
      have HX := Lib.hid (show g.ldV (M + 1) = 0 ∨ M = 99 from by
        by_cases e : M = 99
        · exact Or.inr e
        · refine Or.inl ?_
          rw [G.ldV_yes ⟨hval, by omega, by omega⟩, landN_zero (fun i hi => by have := le_mx g.flat _ i hi; omega)]; rfl)
      have HY := Lib.hid (show 1 ≤ g.ldV M from by
        rw [G.ldV_yes ⟨hval, hM1, hM2⟩]
        obtain ⟨i, h1, h2⟩ := mx_is g.flat _ hN
        have := landN_one (Z := g.flat) (lv := M) h1 (by omega)
        omega)
      clear eM elo hval hN
      go_wp2_with fail
      refine (implLevelGreatest_any _ 0 w1.heap.size g _ (R_g.out.mono (Nat.zero_le _) (by omega)) (Nat.le_refl _) M (Or.inl ⟨HV.out, EM.out⟩)).mono ?_
      rintro e w2 ⟨rfl, bw2⟩
      have sw2 : w1.heap.size ≤ w2.heap.size := bw2.size
      have L_1 := Lib.hid (R_g.out.same (SameIn.below bw2 (by omega)))
      clear R_g
      have BL_2 := Lib.hid (BL.out.trans (bw2.mono (by omega)))
      clear BL bw2
      go_wp2_with fail
      refine (specLevelGreatest_any _ 0 w2.heap.size g _ (L_1.out.mono (Nat.zero_le _) (by omega)) M (Or.inl ⟨HV.out, EM.out⟩)).mono ?_
      rintro e w3 ⟨rfl, bw3⟩
      have sw3 : w2.heap.size ≤ w3.heap.size := bw3.size
      have L_3 := Lib.hid (L_1.out.same (SameIn.below bw3 (by omega)))
      clear L_1
      have BL_4 := Lib.hid (BL_2.out.trans (bw3.mono (by omega)))
      clear BL_2 bw3
      have hx1 : (M != M) = false := by simp
      have hx2 : decide (M < 0) = false := by simp; omega
      go_wp2_with fail
      refine ((implGridRange_yes _ 0 w3.heap.size g _ (L_3.out.mono (Nat.zero_le _) (by omega)) (Nat.le_refl _) HV.out)).mono ?_
      rintro e w4 ⟨rfl, bw4⟩
      have sw4 : w3.heap.size ≤ w4.heap.size := bw4.size
      have L_5 := Lib.hid (L_3.out.same (SameIn.below bw4 (by omega)))
      clear L_3
      have BL_6 := Lib.hid (BL_4.out.trans (bw4.mono (by omega)))
      clear BL_4 bw4
      rw [ELO.out, ← EM.out]
      go_wp2_with fail
      refine ((implLevelLand_any _ 0 w4.heap.size g (M + 1) _ (L_5.out.mono (Nat.zero_le _) (by omega)) (Nat.le_refl _))).mono ?_
      rintro e w5 ⟨rfl, bw5⟩
      have sw5 : w4.heap.size ≤ w5.heap.size := bw5.size
      have L_7 := Lib.hid (L_5.out.same (SameIn.below bw5 (by omega)))
      clear L_5
      have BL_8 := Lib.hid (BL_6.out.trans (bw5.mono (by omega)))
      clear BL_6 bw5
      have hx := HX.out
      obtain ⟨x, ex⟩ : ∃ x, g.ldV (M + 1) = x := ⟨_, rfl⟩
      rw [ex] at hx ⊢
      have hy1 : (M == M) = true := by simp
      go_wp2_with fail
      refine ((implLevelLand_any _ 0 w5.heap.size g M _ (L_7.out.mono (Nat.zero_le _) (by omega)) (Nat.le_refl _))).mono ?_
      rintro e w6 ⟨rfl, bw6⟩
      have sw6 : w5.heap.size ≤ w6.heap.size := bw6.size
      have L_9 := Lib.hid (L_7.out.same (SameIn.below bw6 (by omega)))
      clear L_7
      have BL_10 := Lib.hid (BL_8.out.trans (bw6.mono (by omega)))
      clear BL_8 bw6
      have hy := HY.out
      obtain ⟨y, ey⟩ : ∃ y, g.ldV M = y := ⟨_, rfl⟩
      rw [ey] at hy ⊢
      clear ex ey
      have hy2 : decide (1 ≤ y) = true := by simp; omega
      have hz : (x == 0) = true ∨ ((x == 0) = false ∧ (M == 99) = true) := by
        by_cases e : x = 0
        · exact Or.inl (by simp [e])
        · refine Or.inr ⟨by simp [e], ?_⟩
          rcases hx with h | h
          · exact (e h).elim
          · simp [h]
      rcases hz with hz | ⟨hz1, hz2⟩
      · go_wp2
        go_ret
        exact ⟨rfl, BL_10.out⟩
      · go_wp2
        go_ret
        exact ⟨rfl, BL_10.out⟩
end Go.Proofs.Ytmhcpjekpkdaeaa

