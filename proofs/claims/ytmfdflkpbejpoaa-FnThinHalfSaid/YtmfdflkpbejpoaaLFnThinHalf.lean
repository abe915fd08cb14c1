/- The law FnThinHalf of the promises: its walk. -/
import Derived.Test.YtmfdflkpbejpoaaThQ
import Derived.Test.YtmfdflkpbejpoaaDrawW
import Derived.Test.YtmfdflkpbejpoaaPrC
namespace Go.Proofs.Ytmfdflkpbejpoaa
open Go.RowKit
set_option linter.unusedVariables false

set_option maxHeartbeats 4000000 in
set_option maxRecDepth 100000 in
theorem law_FnThinHalf (v : Value) (n : Nat) (w : World) (hv : RdB w.heap.size w v n) : Calls Try.prog 11 #[v] w (LawPost w) := by
  have HD := Lib.hid (draw_DrawThinHalf v n w.heap.size w hv (Nat.le_refl _))
  obtain ⟨ao, cap, cb, off, Z, rfl, hc1, hc2, _⟩ := hv
  by_cases hn : 1048576 < n
  · have hn' : (1048576 : Int) < n := by omega
    go_enter Try.func11, Try.ntmps11
    go_wp2
    go_ret
    exact ⟨rfl, Below.refl _ _⟩
  · have hn' : ¬ (1048576 : Int) < n := by omega
    go_enter Try.func11, Try.ntmps11
    go_wp2_with fail
    refine HD.out.mono ?_
    rintro e w1 ⟨vp, n0, z0, rfl, _, hm, hn9, hzz, bw1⟩
    obtain ⟨ap, cp, rfl⟩ := hm.shape
    have R_p := Lib.hid hm
    have HZZ := Lib.hid hzz
    clear hm hzz HD
    have sw1 : w.heap.size ≤ w1.heap.size := bw1.size
    have BL := Lib.hid bw1
    clear bw1
    by_cases hok : PrOk n0 z0
    case neg =>
      go_wp2_with fail
      refine (implHalf_no _ 0 w1.heap.size n0 z0 _ (R_p.out.mono (Nat.zero_le _) (by omega)) (Nat.le_refl _) hok).mono ?_
      rintro e w2 ⟨_, rfl, ⟨_, _, _, rfl⟩, ow2, bw2⟩
      have Nw2 := Lib.hid (ow2.rd)
      clear ow2
      have sw2 : w1.heap.size ≤ w2.heap.size := bw2.size
      have L_1 := Lib.hid (R_p.out.same (SameIn.below bw2 (by omega)))
      clear R_p
      have BL_2 := Lib.hid (BL.out.trans (bw2.mono (by omega)))
      clear BL bw2
      go_wp2_with fail
      refine (specHalf_no _ 0 w2.heap.size n0 z0 _ (L_1.out.mono (Nat.zero_le _) (by omega)) (Nat.le_refl _) hok).mono ?_
      rintro e w3 ⟨_, rfl, ⟨_, _, _, rfl⟩, ow3, bw3⟩
      have Nw3 := Lib.hid (ow3)
      clear ow3
      have sw3 : w2.heap.size ≤ w3.heap.size := bw3.size
      have L_3 := Lib.hid (L_1.out.same (SameIn.below bw3 (by omega)))
      clear L_1
      have L_4 := Lib.hid (Nw2.out.same (SameIn.below bw3 (by omega)))
      clear Nw2
      have BL_5 := Lib.hid (BL_2.out.trans (bw3.mono (by omega)))
      clear BL_2 bw3
      go_wp2_with fail
      refine (sameInts_any _ _ _ _ _ _ (0) _ _ _ L_4.out Nw3.out (fun _ _ => rfl)).mono ?_
      intro e w4 hq
      obtain ⟨rfl, bw4⟩ := hq.bl
      clear hq
      have sw4 : w3.heap.size ≤ w4.heap.size := bw4.size
      have L_6 := Lib.hid (L_3.out.same (SameIn.below bw4 (by omega)))
      clear L_3
      have L_7 := Lib.hid (L_4.out.same (SameIn.below bw4 (by omega)))
      clear L_4
      have L_8 := Lib.hid (Nw3.out.same (SameIn.below bw4 (by omega)))
      clear Nw3
      have BL_9 := Lib.hid (BL_5.out.trans (bw4.mono (by omega)))
      clear BL_5 bw4
      go_wp2_with fail
      refine (sameInts_any _ _ _ _ _ _ (0) _ _ _ L_7.out L_8.out (fun _ _ => rfl)).mono ?_
      intro e w5 hq
      obtain ⟨rfl, bw5⟩ := hq.bl
      clear hq
      have sw5 : w4.heap.size ≤ w5.heap.size := bw5.size
      have L_10 := Lib.hid (L_6.out.same (SameIn.below bw5 (by omega)))
      clear L_6
      have L_11 := Lib.hid (L_7.out.same (SameIn.below bw5 (by omega)))
      clear L_7
      have L_12 := Lib.hid (L_8.out.same (SameIn.below bw5 (by omega)))
      clear L_8
      have BL_13 := Lib.hid (BL_9.out.trans (bw5.mono (by omega)))
      clear BL_9 bw5
      go_wp2
      go_ret
      exact ⟨rfl, BL_13.out⟩
    case pos =>
      have hn1 := hok.1.1
      have hn20 := hok.1.2
      have HTH := Lib.hid (by have h9 := line_ok (z := z0) (haF_rul n0) hok; have h8 := thB_yes h9; have h7 := haL_len hn1; unfold haL at h7; rw [h7] at h8; exact h8 : thB n0 z0 (n0 / 2 + 1) (nsZ (haL n0)) = true)
      obtain ⟨h, eh⟩ : ∃ h, n0 / 2 = h := ⟨_, rfl⟩
      have hh10 : h ≤ 10 := by omega
      have HEH := Lib.hid eh
      go_wp2_with fail
      refine (implHalf_yes _ 0 w1.heap.size n0 z0 _ (R_p.out.mono (Nat.zero_le _) (by omega)) (Nat.le_refl _) hok).mono ?_
      rintro e w2 ⟨_, rfl, ⟨_, _, _, rfl⟩, ow2, bw2⟩
      have Nw2 := Lib.hid (ow2.rd)
      clear ow2
      have sw2 : w1.heap.size ≤ w2.heap.size := bw2.size
      have L_1 := Lib.hid (R_p.out.same (SameIn.below bw2 (by omega)))
      clear R_p
      have BL_2 := Lib.hid (BL.out.trans (bw2.mono (by omega)))
      clear BL bw2
      go_wp2_with fail
      refine (specHalf_yes _ 0 w2.heap.size n0 z0 _ (L_1.out.mono (Nat.zero_le _) (by omega)) (Nat.le_refl _) hok).mono ?_
      rintro e w3 ⟨_, rfl, ⟨_, _, _, rfl⟩, ow3, bw3⟩
      have Nw3 := Lib.hid (ow3)
      clear ow3
      have sw3 : w2.heap.size ≤ w3.heap.size := bw3.size
      have L_3 := Lib.hid (L_1.out.same (SameIn.below bw3 (by omega)))
      clear L_1
      have L_4 := Lib.hid (Nw2.out.same (SameIn.below bw3 (by omega)))
      clear Nw2
      have BL_5 := Lib.hid (BL_2.out.trans (bw3.mono (by omega)))
      clear BL_2 bw3
      go_wp2_with fail
      refine (sameInts_any _ _ _ _ _ _ (n0 / 2 + 1) _ _ _ L_4.out Nw3.out (fun _ _ => rfl)).mono ?_
      intro e w4 hq
      obtain ⟨rfl, bw4⟩ := hq.bl
      clear hq
      have sw4 : w3.heap.size ≤ w4.heap.size := bw4.size
      have L_6 := Lib.hid (L_3.out.same (SameIn.below bw4 (by omega)))
      clear L_3
      have L_7 := Lib.hid (L_4.out.same (SameIn.below bw4 (by omega)))
      clear L_4
      have L_8 := Lib.hid (Nw3.out.same (SameIn.below bw4 (by omega)))
      clear Nw3
      have BL_9 := Lib.hid (BL_5.out.trans (bw4.mono (by omega)))
      clear BL_5 bw4
      go_wp2_with fail
      refine (implThin_b _ _ 0 w4.heap.size 0 w4.heap.size n0 (n0 / 2 + 1) z0 _ true _ (L_6.out.mono (Nat.zero_le _) (by omega)) (L_7.out.mono (Nat.zero_le _) (by omega)) (Nat.le_refl _) (by omega) HTH.out).mono ?_
      rintro e w5 ⟨rfl, bw5⟩
      have sw5 : w4.heap.size ≤ w5.heap.size := bw5.size
      have L_10 := Lib.hid (L_6.out.same (SameIn.below bw5 (by omega)))
      clear L_6
      have L_11 := Lib.hid (L_7.out.same (SameIn.below bw5 (by omega)))
      clear L_7
      have L_12 := Lib.hid (L_8.out.same (SameIn.below bw5 (by omega)))
      clear L_8
      have BL_13 := Lib.hid (BL_9.out.trans (bw5.mono (by omega)))
      clear BL_9 bw5
      have hdv : ((n0 : Int)) / 2 = (h : Int) := by have := HEH.out; omega
      have hdt : ((n0 : Int)).tdiv 2 = (h : Int) := by rw [Int.tdiv_eq_ediv_of_nonneg (by omega)]; exact hdv
      have hlh : ((n0 / 2 + 1 : Nat) : Int) = (h : Int) + 1 := by have := HEH.out; omega
      have hbb : (((h : Int) + 1) == ((h : Int) + 1)) = true := by simp
      clear eh
      go_wp2
      go_ret
      obtain ⟨_, _, hE⟩ := L_11.out.shape
      injection hE with _ hE2 _
      refine ⟨?_, BL_13.out⟩
      refine congrArg (fun b => Ending.returned (Value.bool b)) (?_ : (_ == _) = true)
      rw [hE2, hlh]
      exact hbb
end Go.Proofs.Ytmfdflkpbejpoaa
