/- The law FnWhole of the promises: its walk. -/
import Derived.Test.YthcgoncgbhphiabPHelp
import Derived.Test.YthcgoncgbhphiabLvI
import Derived.Test.YthcgoncgbhphiabRegW
import Derived.Test.YthcgoncgbhphiabDrawG
namespace Go.Proofs.Ythcgoncgbhphiab
open Go.RowKit
set_option linter.unusedVariables false

theorem whIs_le {g : G} {n : Nat} (hval : g.Valid) (hn : n ≤ 99) (h : g.rgV (n : Int) = 1) : (n : Int) ≤ mx g.flat (g.n * g.len 0) := by
  rw [G.rgV_yes ⟨hval, by omega, by omega⟩] at h
  obtain ⟨k, h1, h2, h3, h4⟩ := rgN_hit (R := g.n) (C := g.len 0) (Z := g.flat) (lv := (n : Int)) (N := g.n * g.len 0) (s := 0) (by omega)
  have := le_mx g.flat _ k h1
  omega

set_option maxHeartbeats 4000000 in
set_option maxRecDepth 100000 in
theorem law_FnWhole (v : Value) (n : Nat) (w : World) (hv : RdB w.heap.size w v n) : Calls Try.prog 10 #[v] w (LawPost w) := by
  have HD := Lib.hid (draw_DrawLevelWhole v n w.heap.size w hv (Nat.le_refl _))
  obtain ⟨ao, cap, cb, off, Z, rfl, hc1, hc2, _⟩ := hv
  by_cases hn : 1048576 < n
  · have hn' : (1048576 : Int) < n := by omega
    go_enter Try.func10, Try.ntmps10
    go_wp2
    go_ret
    exact ⟨rfl, Below.refl _ _⟩
  · have hn' : ¬ (1048576 : Int) < n := by omega
    go_enter Try.func10, Try.ntmps10
    go_wp2_with fail
    refine HD.out.mono ?_
    rintro e w1 ⟨vg, g, rfl, _, hm, hgn, hgl, bw1⟩
    obtain ⟨bg, og, cg, rfl⟩ := hm.shape (by omega)
    have R_g := Lib.hid hm
    have HGL := Lib.hid hgl
    obtain ⟨hgn1, hgn5⟩ := hgn
    clear hm hgl HD
    have sw1 : w.heap.size ≤ w1.heap.size := bw1.size
    have BL := Lib.hid bw1
    clear bw1
    obtain ⟨x, hx⟩ := whIs_ex g
    have HX := Lib.hid hx
    rcases hx with ⟨hval, n, rfl, hn99, hall, hne⟩ | ⟨hval, rfl⟩
    case inr =>
      go_wp2_with fail
      refine (implLevelWhole_any _ 0 w1.heap.size g _ (R_g.out.mono (Nat.zero_le _) (by omega)) (Nat.le_refl _) (-1) HX.out).mono ?_
      rintro e w2 ⟨rfl, bw2⟩
      have sw2 : w1.heap.size ≤ w2.heap.size := bw2.size
      have L_1 := Lib.hid (R_g.out.same (SameIn.below bw2 (by omega)))
      clear R_g
      have BL_2 := Lib.hid (BL.out.trans (bw2.mono (by omega)))
      clear BL bw2
      go_wp2_with fail
      refine (specLevelWhole_any _ 0 w2.heap.size g _ (L_1.out.mono (Nat.zero_le _) (by omega)) (Nat.le_refl _) (-1) HX.out).mono ?_
      rintro e w3 ⟨rfl, bw3⟩
      have sw3 : w2.heap.size ≤ w3.heap.size := bw3.size
      have L_3 := Lib.hid (L_1.out.same (SameIn.below bw3 (by omega)))
      clear L_1
      have BL_4 := Lib.hid (BL_2.out.trans (bw3.mono (by omega)))
      clear BL_2 bw3
      go_wp2
      go_ret
      exact ⟨rfl, BL_4.out⟩
    case inl =>
      have HV := Lib.hid hval
      obtain ⟨M, eM⟩ : ∃ M, M = mx g.flat (g.n * g.len 0) := ⟨_, rfl⟩
      have EM := Lib.hid eM
      have HLE := Lib.hid (show (n : Int) ≤ M from eM ▸ whIs_le hval hn99 (hall n (Nat.le_refl _)))
      have HE := Lib.hid (hall n (Nat.le_refl _))
      have HNE := Lib.hid hne
      clear eM hall hval hne
      go_wp2_with fail
      refine (implLevelWhole_any _ 0 w1.heap.size g _ (R_g.out.mono (Nat.zero_le _) (by omega)) (Nat.le_refl _) n HX.out).mono ?_
      rintro e w2 ⟨rfl, bw2⟩
      have sw2 : w1.heap.size ≤ w2.heap.size := bw2.size
      have L_1 := Lib.hid (R_g.out.same (SameIn.below bw2 (by omega)))
      clear R_g
      have BL_2 := Lib.hid (BL.out.trans (bw2.mono (by omega)))
      clear BL bw2
      go_wp2_with fail
      refine (specLevelWhole_any _ 0 w2.heap.size g _ (L_1.out.mono (Nat.zero_le _) (by omega)) (Nat.le_refl _) n HX.out).mono ?_
      rintro e w3 ⟨rfl, bw3⟩
      have sw3 : w2.heap.size ≤ w3.heap.size := bw3.size
      have L_3 := Lib.hid (L_1.out.same (SameIn.below bw3 (by omega)))
      clear L_1
      have BL_4 := Lib.hid (BL_2.out.trans (bw3.mono (by omega)))
      clear BL_2 bw3
      have hx1 : ((n : Int) != n) = false := by simp
      have hx2 : decide ((n : Int) < 0) = false := by simp <;> omega
      go_wp2_with fail
      refine (implLevelRegions_any _ 0 w3.heap.size g ((n : Int) + 1) _ (L_3.out.mono (Nat.zero_le _) (by omega)) (Nat.le_refl _)).mono ?_
      rintro e w4 ⟨rfl, bw4⟩
      have sw4 : w3.heap.size ≤ w4.heap.size := bw4.size
      have L_5 := Lib.hid (L_3.out.same (SameIn.below bw4 (by omega)))
      clear L_3
      have BL_6 := Lib.hid (BL_4.out.trans (bw4.mono (by omega)))
      clear BL_4 bw4
      have hne := HNE.out
      obtain ⟨y, ey⟩ : ∃ y, g.rgV ((n : Int) + 1) = y := ⟨_, rfl⟩
      rw [ey] at hne ⊢
      clear ey
      go_wp2_with fail
      refine (implLevelRegions_any _ 0 w4.heap.size g n _ (L_5.out.mono (Nat.zero_le _) (by omega)) (Nat.le_refl _)).mono ?_
      rintro e w5 ⟨rfl, bw5⟩
      have sw5 : w4.heap.size ≤ w5.heap.size := bw5.size
      have L_7 := Lib.hid (L_5.out.same (SameIn.below bw5 (by omega)))
      clear L_5
      have BL_8 := Lib.hid (BL_6.out.trans (bw5.mono (by omega)))
      clear BL_6 bw5
      rw [HE.out]
      have hle := HLE.out
      have hle2 : decide ((n : Int) ≤ M) = true := by simp <;> omega
      have hc : ((n : Int) == 99) = true ∨ (((n : Int) == 99) = false ∧ (y != 1) = true) := by
        rcases hne with h | h
        · exact Or.inl (by subst h; rfl)
        · by_cases e : ((n : Int) == 99) = true
          · exact Or.inl e
          · exact Or.inr ⟨by simpa using e, by simp [h]⟩
      clear hne
      rcases hc with hc | ⟨hc, hd⟩
      ·
        go_wp2_with fail
        refine (implLevelGreatest_any _ 0 w5.heap.size g _ (L_7.out.mono (Nat.zero_le _) (by omega)) (Nat.le_refl _) M (Or.inl ⟨HV.out, EM.out⟩)).mono ?_
        rintro e w6 ⟨rfl, bw6⟩
        have sw6 : w5.heap.size ≤ w6.heap.size := bw6.size
        have L_9 := Lib.hid (L_7.out.same (SameIn.below bw6 (by omega)))
        clear L_7
        have BL_10 := Lib.hid (BL_8.out.trans (bw6.mono (by omega)))
        clear BL_8 bw6
        go_wp2
        go_ret
        exact ⟨rfl, BL_10.out⟩
      ·
        go_wp2_with fail
        refine (implLevelGreatest_any _ 0 w5.heap.size g _ (L_7.out.mono (Nat.zero_le _) (by omega)) (Nat.le_refl _) M (Or.inl ⟨HV.out, EM.out⟩)).mono ?_
        rintro e w6 ⟨rfl, bw6⟩
        have sw6 : w5.heap.size ≤ w6.heap.size := bw6.size
        have L_9 := Lib.hid (L_7.out.same (SameIn.below bw6 (by omega)))
        clear L_7
        have BL_10 := Lib.hid (BL_8.out.trans (bw6.mono (by omega)))
        clear BL_8 bw6
        go_wp2
        go_ret
        exact ⟨rfl, BL_10.out⟩
end Go.Proofs.Ythcgoncgbhphiab

