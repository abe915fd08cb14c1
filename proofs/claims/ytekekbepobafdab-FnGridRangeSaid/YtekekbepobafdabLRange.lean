/- The law FnGridRange of the promises: its walk. -/
import Derived.Test.YtekekbepobafdabPHelp
namespace Go.Proofs.Ytekekbepobafdab
open Go.RowKit
set_option linter.unusedVariables false

set_option maxHeartbeats 4000000 in
set_option maxRecDepth 100000 in
theorem law_FnGridRange (v : Value) (n : Nat) (w : World) (hv : RdB w.heap.size w v n) : Calls Try.prog 6 #[v] w (LawPost w) := by
  have HD := Lib.hid (draw_DrawGridRange v n w.heap.size w hv (Nat.le_refl _))
  obtain ⟨ao, cap, cb, off, Z, rfl, hc1, hc2, _⟩ := hv
  by_cases hn : 1048576 < n
  · have hn' : (1048576 : Int) < n := by omega
    go_enter Try.func6, Try.ntmps6
    go_wp2
    go_ret
    exact ⟨rfl, Below.refl _ _⟩
  · have hn' : ¬ (1048576 : Int) < n := by omega
    go_enter Try.func6, Try.ntmps6
    go_wp2_with fail
    refine HD.out.mono ?_
    rintro e w1 ⟨vg, g, rfl, _, hm, hgn, hgl, bw1⟩
    obtain ⟨bg, og, cg, rfl⟩ := hm.shape (by omega)
    have R_g := Lib.hid hm
    have HGL := Lib.hid hgl
    obtain ⟨hgn1, hgn5⟩ := hgn
    clear hm hgl HD
    have sw1 : w.heap.size ≤ w1.heap.size := bw1.size
    have BL := Lib.hid bw1
    clear bw1
    by_cases hval : g.Valid
    case neg =>
      have HVN := Lib.hid hval
      clear hval
      go_wp2_with fail
      refine (implGridRange_no _ 0 w1.heap.size g _ (R_g.out.mono (Nat.zero_le _) (by omega)) (Nat.le_refl _) HVN.out).mono ?_
      rintro e w2 ⟨rfl, bw2⟩
      have sw2 : w1.heap.size ≤ w2.heap.size := bw2.size
      have L_1 := Lib.hid (R_g.out.same (SameIn.below bw2 (by omega)))
      clear R_g
      have BL_2 := Lib.hid (BL.out.trans (bw2.mono (by omega)))
      clear BL bw2
      go_wp2_with fail
      refine (specGridRange_no _ 0 w2.heap.size g _ (L_1.out.mono (Nat.zero_le _) (by omega)) HVN.out).mono ?_
      rintro e w3 ⟨rfl, bw3⟩
      have sw3 : w2.heap.size ≤ w3.heap.size := bw3.size
      have L_3 := Lib.hid (L_1.out.same (SameIn.below bw3 (by omega)))
      clear L_1
      have BL_4 := Lib.hid (BL_2.out.trans (bw3.mono (by omega)))
      clear BL_2 bw3
      go_wp2
      go_ret
      exact ⟨rfl, BL_4.out⟩
    case pos =>
      have HV := Lib.hid hval
      have hN : 0 < g.n * g.len 0 := Nat.mul_pos hval.1.1 hval.2.1.1
      have hN49 : g.n * g.len 0 ≤ 49 := mul_le_49 hval.1.2 hval.2.1.2
      clear hval
      obtain ⟨lo, elo⟩ : ∃ lo, mn g.flat (g.n * g.len 0) = lo := ⟨_, rfl⟩
      obtain ⟨hi, ehi⟩ : ∃ hi, mx g.flat (g.n * g.len 0) = hi := ⟨_, rfl⟩
      obtain ⟨N, eN⟩ : ∃ N, g.n * g.len 0 = N := ⟨_, rfl⟩
      have HLO := Lib.hid (show (∀ i, i < N → lo ≤ g.flat i ∧ g.flat i ≤ hi) ∧ anyEq g.flat lo N = true ∧ anyEq g.flat hi N = true from by
        rw [← eN, ← elo, ← ehi]
        obtain ⟨i, h1, h2⟩ := mn_is g.flat _ hN
        obtain ⟨j, h3, h4⟩ := mx_is g.flat _ hN
        exact ⟨fun i hi => ⟨mn_le _ _ _ hi, le_mx _ _ _ hi⟩, anyEq_of h1 h2, anyEq_of h3 h4⟩)
      have ELO := Lib.hid elo
      have EHI := Lib.hid ehi
      have EN := Lib.hid eN
      rw [eN] at hN hN49
      clear elo ehi eN
      go_wp2_with fail
      refine ((implGridRange_yes _ 0 w1.heap.size g _ (R_g.out.mono (Nat.zero_le _) (by omega)) (Nat.le_refl _) HV.out)).mono ?_
      rintro e w2 ⟨rfl, bw2⟩
      have sw2 : w1.heap.size ≤ w2.heap.size := bw2.size
      have L_1 := Lib.hid (R_g.out.same (SameIn.below bw2 (by omega)))
      clear R_g
      have BL_2 := Lib.hid (BL.out.trans (bw2.mono (by omega)))
      clear BL bw2
      rw [ELO.out, EHI.out]
      go_wp2_with fail
      refine ((specGridRange_yes _ 0 w2.heap.size g _ (L_1.out.mono (Nat.zero_le _) (by omega)) HV.out)).mono ?_
      rintro e w3 ⟨rfl, bw3⟩
      have sw3 : w2.heap.size ≤ w3.heap.size := bw3.size
      have L_3 := Lib.hid (L_1.out.same (SameIn.below bw3 (by omega)))
      clear L_1
      have BL_4 := Lib.hid (BL_2.out.trans (bw3.mono (by omega)))
      clear BL_2 bw3
      rw [ELO.out, EHI.out]
      have hx1 : (lo != lo) = false := by simp
      have hx2 : (hi != hi) = false := by simp
      go_wp2
      clear hx1 hx2
      go_loopw [10, 11, 12] (fun a b i wr => ∃ k m : Nat, k ≤ N ∧ i = .int .i64 k ∧ a = .bool (anyEq g.flat lo k) ∧ b = .bool (anyEq g.flat hi k) ∧ wr = w3.drewN m) (fun _ _ i _ => N - (intOf i).toNat)
      case atStart => exact ⟨0, 0, Nat.zero_le _, rfl, rfl, rfl, rfl⟩
      case round =>
        obtain ⟨k, m, hk, rfl, rfl, rfl, rfl⟩ := hrel
        have HR := Lib.hid (L_3.out.same (w' := w3.drewN m) (fun _ _ _ => rfl))
        go_wp2_with fail
        refine (cellsOf_any _ 0 _ g _ HR.out HV.out).mono ?_
        rintro e w9 ⟨rfl, rfl⟩
        rw [EN.out]
        by_cases hlt : k < N
        · have hlt' : (k : Int) < N := by omega
          have hz := HLO.out.1 k hlt
          obtain ⟨z, ez⟩ : ∃ z, g.flat k = z := ⟨_, rfl⟩
          rw [ez] at hz
          obtain ⟨hz1, hz2⟩ := hz
          have E1 := Lib.hid (show anyEq g.flat lo (k + 1) = (anyEq g.flat lo k || (z == lo)) by rw [← ez]; rfl)
          have E2 := Lib.hid (show anyEq g.flat hi (k + 1) = (anyEq g.flat hi k || (z == hi)) by rw [← ez]; rfl)
          have EZ := Lib.hid ez
          clear ez
          generalize hA : anyEq g.flat lo k = A at E1 ⊢
          generalize hB : anyEq g.flat hi k = B at E2 ⊢
          clear hA hB
          cases A <;> cases B <;> (
            go_wp2_with fail
            refine (heightOf_any _ 0 _ g k _ HR.out HV.out (by rw [EN.out]; exact hlt)).mono ?_
            rintro e w8 ⟨rfl, m2, rfl⟩
            rw [EZ.out]
            have hd1 : decide (z < lo) = false := by simp; omega
            have hd2 : decide (hi < z) = false := by simp; omega
            go_wp2
            go_roundw
            case rel => exact ⟨k + 1, m + m2, by omega, by go_num, by rw [E1.out]; simp, by rw [E2.out]; simp, rfl⟩
            case measure => simp [intOf]; omega)
        · have ek : k = N := by omega
          subst ek
          rw [HLO.out.2.1, HLO.out.2.2]
          go_wp2
          go_ret
          exact ⟨rfl, below_drewN BL_4.out m⟩
end Go.Proofs.Ytekekbepobafdab

