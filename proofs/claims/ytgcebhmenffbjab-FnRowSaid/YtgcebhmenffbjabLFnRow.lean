/- The law FnRow of the promises: its walk. -/
import Derived.Test.YtgcebhmenffbjabDrawT
import Derived.Test.YtgcebhmenffbjabM2
namespace Go.Proofs.Ytgcebhmenffbjab
open Go.RowKit
set_option linter.unusedVariables false

set_option maxHeartbeats 4000000 in
set_option maxRecDepth 100000 in
theorem law_FnRow (v : Value) (n : Nat) (w : World) (hv : RdB w.heap.size w v n) : Calls Try.prog 12 #[v] w (LawPost w) := by
  have HD := Lib.hid (draw_DrawProfileRow v n w.heap.size w hv (Nat.le_refl _))
  obtain ⟨ao, cap, cb, off, Z, rfl, hc1, hc2, _⟩ := hv
  by_cases hn : 1048576 < n
  · have hn' : (1048576 : Int) < n := by omega
    go_enter Try.func12, Try.ntmps12
    go_wp2
    go_ret
    exact ⟨rfl, Below.refl _ _⟩
  · have hn' : ¬ (1048576 : Int) < n := by omega
    go_enter Try.func12, Try.ntmps12
    go_wp2_with fail
    refine HD.out.mono ?_
    rintro e w1 ⟨vg, g, k0, rfl, _, hm, hgn, hgl, hk0, bw1⟩
    obtain ⟨ag, cg, rfl⟩ := hm.shapeL
    have R_g := Lib.hid hm
    clear hm HD hgl
    have sw1 : w.heap.size ≤ w1.heap.size := bw1.size
    have BL := Lib.hid bw1
    clear bw1
    by_cases hok : g.Cell k0 0
    case neg =>
      go_wp2_with fail
      refine (implRow_no _ 0 w1.heap.size g k0 _ (R_g.out.mono (Nat.zero_le _) (by omega)) (Nat.le_refl _) hok).mono ?_
      rintro e w2 ⟨_, rfl, ⟨_, _, _, rfl⟩, ow2, bw2⟩
      have Nw2 := Lib.hid (ow2.rd)
      clear ow2
      have sw2 : w1.heap.size ≤ w2.heap.size := bw2.size
      have L_1 := Lib.hid (R_g.out.same (SameIn.below bw2 (by omega)))
      clear R_g
      have BL_2 := Lib.hid (BL.out.trans (bw2.mono (by omega)))
      clear BL bw2
      go_wp2_with fail
      refine (specRow_no _ 0 w2.heap.size g k0 _ (L_1.out.mono (Nat.zero_le _) (by omega)) (Nat.le_refl _) hok).mono ?_
      rintro e w3 ⟨_, rfl, ⟨_, _, _, rfl⟩, ow3, bw3⟩
      have Nw3 := Lib.hid (ow3)
      clear ow3
      have sw3 : w2.heap.size ≤ w3.heap.size := bw3.size
      have L_3 := Lib.hid (L_1.out.same (SameIn.below bw3 (by omega)))
      clear L_1
      have L_4 := Lib.hid (Nw2.out.same (SameIn.below bw3 (by omega)))
      clear Nw2
      have BL_5 := Lib.hid (BL_2.out.trans (bw3.mono (by omega)))
      clear BL_2 bw3
      go_wp2_with fail
      refine (sameInts_any _ _ _ _ _ _ (0) _ _ _ L_4.out Nw3.out (fun _ _ => rfl)).mono ?_
      intro e w4 hq
      obtain ⟨rfl, bw4⟩ := hq.bl
      clear hq
      have sw4 : w3.heap.size ≤ w4.heap.size := bw4.size
      have L_6 := Lib.hid (L_3.out.same (SameIn.below bw4 (by omega)))
      clear L_3
      have L_7 := Lib.hid (L_4.out.same (SameIn.below bw4 (by omega)))
      clear L_4
      have L_8 := Lib.hid (Nw3.out.same (SameIn.below bw4 (by omega)))
      clear Nw3
      have BL_9 := Lib.hid (BL_5.out.trans (bw4.mono (by omega)))
      clear BL_5 bw4
      go_wp2_with fail
      refine (sameInts_any _ _ _ _ _ _ (0) _ _ _ L_7.out L_8.out (fun _ _ => rfl)).mono ?_
      intro e w5 hq
      obtain ⟨rfl, bw5⟩ := hq.bl
      clear hq
      have sw5 : w4.heap.size ≤ w5.heap.size := bw5.size
      have L_10 := Lib.hid (L_6.out.same (SameIn.below bw5 (by omega)))
      clear L_6
      have L_11 := Lib.hid (L_7.out.same (SameIn.below bw5 (by omega)))
      clear L_7
      have L_12 := Lib.hid (L_8.out.same (SameIn.below bw5 (by omega)))
      clear L_8
      have BL_13 := Lib.hid (BL_9.out.trans (bw5.mono (by omega)))
      clear BL_9 bw5
      go_wp2
      go_ret
      exact ⟨rfl, BL_13.out⟩
    case pos =>
      obtain ⟨r, rfl⟩ : ∃ r : Nat, k0 = r := ⟨k0.toNat, by have := hok.2.1.1; omega⟩
      have hrn : r < g.n := by have := hok.2.1.2; omega
      have hval := hok.1
      have hcm := cell_mirror hok
      have hPr := row_ok hval hrn
      have hlr := (hval.2.2 r hrn).1
      go_wp2_with fail
      refine (implRow_yes _ 0 w1.heap.size g r _ (R_g.out.mono (Nat.zero_le _) (by omega)) (Nat.le_refl _) hok).mono ?_
      rintro e w2 ⟨_, rfl, ⟨_, _, _, rfl⟩, ow2, bw2⟩
      have Nw2 := Lib.hid (ow2.rd)
      clear ow2
      have sw2 : w1.heap.size ≤ w2.heap.size := bw2.size
      have L_1 := Lib.hid (R_g.out.same (SameIn.below bw2 (by omega)))
      clear R_g
      have BL_2 := Lib.hid (BL.out.trans (bw2.mono (by omega)))
      clear BL bw2
      go_wp2_with fail
      refine (specRow_yes _ 0 w2.heap.size g r _ (L_1.out.mono (Nat.zero_le _) (by omega)) (Nat.le_refl _) hok).mono ?_
      rintro e w3 ⟨_, rfl, ⟨_, _, _, rfl⟩, ow3, bw3⟩
      have Nw3 := Lib.hid (ow3)
      clear ow3
      have sw3 : w2.heap.size ≤ w3.heap.size := bw3.size
      have L_3 := Lib.hid (L_1.out.same (SameIn.below bw3 (by omega)))
      clear L_1
      have L_4 := Lib.hid (Nw2.out.same (SameIn.below bw3 (by omega)))
      clear Nw2
      have BL_5 := Lib.hid (BL_2.out.trans (bw3.mono (by omega)))
      clear BL_2 bw3
      go_wp2_with fail
      refine (sameInts_any _ _ _ _ _ _ (g.len 0) _ _ _ L_4.out Nw3.out (fun _ _ => rfl)).mono ?_
      intro e w4 hq
      obtain ⟨rfl, bw4⟩ := hq.bl
      clear hq
      have sw4 : w3.heap.size ≤ w4.heap.size := bw4.size
      have L_6 := Lib.hid (L_3.out.same (SameIn.below bw4 (by omega)))
      clear L_3
      have L_7 := Lib.hid (L_4.out.same (SameIn.below bw4 (by omega)))
      clear L_4
      have L_8 := Lib.hid (Nw3.out.same (SameIn.below bw4 (by omega)))
      clear Nw3
      have BL_9 := Lib.hid (BL_5.out.trans (bw4.mono (by omega)))
      clear BL_5 bw4
      go_wp2_with fail
      refine (implGridMirror_yes _ 0 w4.heap.size g _ (L_6.out.mono (Nat.zero_le _) (by omega)) (Nat.le_refl _) hval).mono ?_
      rintro e w5 ⟨_, rfl, ⟨_, _, _, rfl⟩, ow5, bw5⟩
      have Nw5 := Lib.hid (ow5.rd)
      clear ow5
      have sw5 : w4.heap.size ≤ w5.heap.size := bw5.size
      have L_10 := Lib.hid (L_6.out.same (SameIn.below bw5 (by omega)))
      clear L_6
      have L_11 := Lib.hid (L_7.out.same (SameIn.below bw5 (by omega)))
      clear L_7
      have L_12 := Lib.hid (L_8.out.same (SameIn.below bw5 (by omega)))
      clear L_8
      have BL_13 := Lib.hid (BL_9.out.trans (bw5.mono (by omega)))
      clear BL_9 bw5
      go_wp2_with fail
      refine (implRow_yes _ 0 w5.heap.size (mirrorG g) r _ (Nw5.out.mono (Nat.zero_le _) (by omega)) (Nat.le_refl _) hcm).mono ?_
      rintro e w6 ⟨_, rfl, ⟨_, _, _, rfl⟩, ow6, bw6⟩
      have Nw6 := Lib.hid (ow6.rd)
      clear ow6
      have sw6 : w5.heap.size ≤ w6.heap.size := bw6.size
      have L_14 := Lib.hid (L_10.out.same (SameIn.below bw6 (by omega)))
      clear L_10
      have L_15 := Lib.hid (L_11.out.same (SameIn.below bw6 (by omega)))
      clear L_11
      have L_16 := Lib.hid (L_12.out.same (SameIn.below bw6 (by omega)))
      clear L_12
      have L_17 := Lib.hid (Nw5.out.same (SameIn.below bw6 (by omega)))
      clear Nw5
      have BL_18 := Lib.hid (BL_13.out.trans (bw6.mono (by omega)))
      clear BL_13 bw6
      go_wp2_with fail
      refine (implBack_yes _ 0 w6.heap.size (g.len 0) (g.z r) _ (L_15.out.mono (Nat.zero_le _) (by omega)) (Nat.le_refl _) hPr).mono ?_
      rintro e w7 ⟨_, rfl, ⟨_, _, _, rfl⟩, ow7, bw7⟩
      have Nw7 := Lib.hid (ow7.rd)
      clear ow7
      have sw7 : w6.heap.size ≤ w7.heap.size := bw7.size
      have L_19 := Lib.hid (L_14.out.same (SameIn.below bw7 (by omega)))
      clear L_14
      have L_20 := Lib.hid (L_15.out.same (SameIn.below bw7 (by omega)))
      clear L_15
      have L_21 := Lib.hid (L_16.out.same (SameIn.below bw7 (by omega)))
      clear L_16
      have L_22 := Lib.hid (L_17.out.same (SameIn.below bw7 (by omega)))
      clear L_17
      have L_23 := Lib.hid (Nw6.out.same (SameIn.below bw7 (by omega)))
      clear Nw6
      have BL_24 := Lib.hid (BL_18.out.trans (bw7.mono (by omega)))
      clear BL_18 bw7
      go_wp2_with fail
      refine (sameInts_any _ _ _ _ _ _ (g.len 0) ((mirrorG g).z r) (revZ (g.len 0 - 1) (g.z r)) _ L_23.out Nw7.out (fun i hi => rfl)).mono ?_
      intro e w8 hq
      obtain ⟨rfl, bw8⟩ := hq.bl
      clear hq
      have sw8 : w7.heap.size ≤ w8.heap.size := bw8.size
      have L_25 := Lib.hid (L_19.out.same (SameIn.below bw8 (by omega)))
      clear L_19
      have L_26 := Lib.hid (L_20.out.same (SameIn.below bw8 (by omega)))
      clear L_20
      have L_27 := Lib.hid (L_21.out.same (SameIn.below bw8 (by omega)))
      clear L_21
      have L_28 := Lib.hid (L_22.out.same (SameIn.below bw8 (by omega)))
      clear L_22
      have L_29 := Lib.hid (L_23.out.same (SameIn.below bw8 (by omega)))
      clear L_23
      have L_30 := Lib.hid (Nw7.out.same (SameIn.below bw8 (by omega)))
      clear Nw7
      have BL_31 := Lib.hid (BL_24.out.trans (bw8.mono (by omega)))
      clear BL_24 bw8
      obtain ⟨ao2, cap2, b2, off2, Ao, Cp, e1, a2, a3, a5, a6, a7⟩ := L_25.out
      simp only [Value.slice.injEq] at e1
      obtain ⟨rfl, _, rfl⟩ := e1
      obtain ⟨rfl, hb1, hb2⟩ := a5 (by omega)
      have q1 := a6 r hrn
      have HRW := Lib.hid (a7 r hrn)
      have hrn' : (r : Int) < g.n := by omega
      rw [hlr] at q1 HRW
      clear a5 a6 a7 hlr hok hcm hval
      go_wp2_with fail
      refine (sameInts_any _ _ _ _ _ _ (g.len 0) _ _ _ L_26.out HRW.out (fun _ _ => rfl)).mono ?_
      intro e w9 hq
      obtain ⟨rfl, bw9⟩ := hq.bl
      clear hq
      have sw9 : w8.heap.size ≤ w9.heap.size := bw9.size
      have L_32 := Lib.hid (L_26.out.same (SameIn.below bw9 (by omega)))
      clear L_26
      have L_33 := Lib.hid (L_27.out.same (SameIn.below bw9 (by omega)))
      clear L_27
      have L_34 := Lib.hid (L_28.out.same (SameIn.below bw9 (by omega)))
      clear L_28
      have L_35 := Lib.hid (L_29.out.same (SameIn.below bw9 (by omega)))
      clear L_29
      have L_36 := Lib.hid (L_30.out.same (SameIn.below bw9 (by omega)))
      clear L_30
      have L_37 := Lib.hid (HRW.out.same (SameIn.below bw9 (by omega)))
      clear HRW
      have BL_38 := Lib.hid (BL_31.out.trans (bw9.mono (by omega)))
      clear BL_31 bw9
      go_wp2
      go_ret
      exact ⟨rfl, BL_38.out⟩
end Go.Proofs.Ytgcebhmenffbjab
