/- The law FnGridsAgree of the promises: its walk. -/
import Derived.Test.YtjllmidagcniaaaSdM
import Derived.Test.YtjllmidagcniaaaDrawSe
namespace Go.Proofs.Ytjllmidagcniaaa
open Go.RowKit
set_option linter.unusedVariables false

set_option maxHeartbeats 4000000 in
set_option maxRecDepth 100000 in
theorem law_FnGridsAgree (v : Value) (n : Nat) (w : World) (hv : RdB w.heap.size w v n) : Calls Try.prog 3 #[v] w (LawPost w) := by
  have HD := Lib.hid (draw_DrawGridsAgree v n w.heap.size w hv (Nat.le_refl _))
  obtain ⟨ao, cap, cb, off, Z, rfl, hc1, hc2, _⟩ := hv
  by_cases hn : 1048576 < n
  · have hn' : (1048576 : Int) < n := by omega
    go_enter Try.func3, Try.ntmps3
    go_wp2
    go_ret
    exact ⟨rfl, Below.refl _ _⟩
  · have hn' : ¬ (1048576 : Int) < n := by omega
    go_enter Try.func3, Try.ntmps3
    go_wp2_with fail
    refine HD.out.mono ?_
    rintro e w1 ⟨va, a, vb, b, rfl, _, _, hma, hmb, hna, hnb, hla, hlb, bw1⟩
    obtain ⟨ba, oa, ca, rfl⟩ := hma.shape (by omega)
    obtain ⟨bb, ob, cb', rfl⟩ := hmb.shape (by omega)
    have R_a := Lib.hid hma
    have R_b := Lib.hid hmb
    have HLA := Lib.hid hla
    have HLB := Lib.hid hlb
    obtain ⟨hna1, hna5⟩ := hna
    obtain ⟨hnb1, hnb5⟩ := hnb
    clear hma hmb hla hlb HD
    have sw1 : w.heap.size ≤ w1.heap.size := bw1.size
    have BL := Lib.hid bw1
    clear bw1
    by_cases hok : agB a b = true
    case neg =>
      have HNO := Lib.hid (show agB a b = false from by simpa using hok)
      clear hok
      go_wp2_with fail
      refine (implAgree_b _ _ 0 w1.heap.size a b _ (R_a.out.mono (Nat.zero_le _) (by omega)) (R_b.out.mono (Nat.zero_le _) (by omega)) (Nat.le_refl _) false HNO.out).mono ?_
      rintro e w2 ⟨rfl, bw2⟩
      have sw2 : w1.heap.size ≤ w2.heap.size := bw2.size
      have L_1 := Lib.hid (R_a.out.same (SameIn.below bw2 (by omega)))
      clear R_a
      have L_2 := Lib.hid (R_b.out.same (SameIn.below bw2 (by omega)))
      clear R_b
      have BL_3 := Lib.hid (BL.out.trans (bw2.mono (by omega)))
      clear BL bw2
      go_wp2_with fail
      refine (specAgree_b _ _ 0 w2.heap.size a b _ (L_1.out.mono (Nat.zero_le _) (by omega)) (L_2.out.mono (Nat.zero_le _) (by omega)) false HNO.out).mono ?_
      rintro e w3 ⟨rfl, bw3⟩
      have sw3 : w2.heap.size ≤ w3.heap.size := bw3.size
      have L_4 := Lib.hid (L_1.out.same (SameIn.below bw3 (by omega)))
      clear L_1
      have L_5 := Lib.hid (L_2.out.same (SameIn.below bw3 (by omega)))
      clear L_2
      have BL_6 := Lib.hid (BL_3.out.trans (bw3.mono (by omega)))
      clear BL_3 bw3
      go_wp2
      go_ret
      exact ⟨rfl, BL_6.out⟩
    case pos =>
      have HOK := Lib.hid hok
      have HRW := Lib.hid (agB_ok hok)
      have HVA := Lib.hid (agB_ok hok).1
      have HVB := Lib.hid (agB_ok hok).2.1
      have HGP := Lib.hid (ag_gap hok)
      have HMR := Lib.hid (ag_mirror hok)
      clear hok
      go_wp2_with fail
      refine (implAgree_b _ _ 0 w1.heap.size a b _ (R_a.out.mono (Nat.zero_le _) (by omega)) (R_b.out.mono (Nat.zero_le _) (by omega)) (Nat.le_refl _) true HOK.out).mono ?_
      rintro e w2 ⟨rfl, bw2⟩
      have sw2 : w1.heap.size ≤ w2.heap.size := bw2.size
      have L_1 := Lib.hid (R_a.out.same (SameIn.below bw2 (by omega)))
      clear R_a
      have L_2 := Lib.hid (R_b.out.same (SameIn.below bw2 (by omega)))
      clear R_b
      have BL_3 := Lib.hid (BL.out.trans (bw2.mono (by omega)))
      clear BL bw2
      go_wp2_with fail
      refine (specAgree_b _ _ 0 w2.heap.size a b _ (L_1.out.mono (Nat.zero_le _) (by omega)) (L_2.out.mono (Nat.zero_le _) (by omega)) true HOK.out).mono ?_
      rintro e w3 ⟨rfl, bw3⟩
      have sw3 : w2.heap.size ≤ w3.heap.size := bw3.size
      have L_4 := Lib.hid (L_1.out.same (SameIn.below bw3 (by omega)))
      clear L_1
      have L_5 := Lib.hid (L_2.out.same (SameIn.below bw3 (by omega)))
      clear L_2
      have BL_6 := Lib.hid (BL_3.out.trans (bw3.mono (by omega)))
      clear BL_3 bw3
      go_wp2_with fail
      refine (implMend_yes _ _ 0 w3.heap.size a b _ (L_4.out.mono (Nat.zero_le _) (by omega)) (L_5.out.mono (Nat.zero_le _) (by omega)) (Nat.le_refl _) HRW.out).mono ?_
      rintro e w4 ⟨rx, ry, rfl, ⟨_, _, _, rfl⟩, ⟨_, _, _, rfl⟩, ox, oy, bw4⟩
      have Nx := Lib.hid ox
      have Ny := Lib.hid oy
      clear ox oy
      have sw4 : w3.heap.size ≤ w4.heap.size := bw4.size
      have L_7 := Lib.hid (L_4.out.same (SameIn.below bw4 (by omega)))
      clear L_4
      have L_8 := Lib.hid (L_5.out.same (SameIn.below bw4 (by omega)))
      clear L_5
      have BL_9 := Lib.hid (BL_6.out.trans (bw4.mono (by omega)))
      clear BL_6 bw4
      go_wp2_with fail
      refine (implGridMirror_yes _ 0 w4.heap.size a _ (L_7.out.mono (Nat.zero_le _) (by omega)) (Nat.le_refl _) HVA.out).mono ?_
      rintro e w5 ⟨r_10, rfl, ⟨_, _, _, rfl⟩, ow5, bw5⟩
      have Nw5 := Lib.hid (ow5.rd)
      clear ow5
      have sw5 : w4.heap.size ≤ w5.heap.size := bw5.size
      have L_11 := Lib.hid (L_7.out.same (SameIn.below bw5 (by omega)))
      clear L_7
      have L_12 := Lib.hid (L_8.out.same (SameIn.below bw5 (by omega)))
      clear L_8
      have L_13 := Lib.hid (Nx.out.same (SameIn.below bw5 (by omega)))
      clear Nx
      have L_14 := Lib.hid (Ny.out.same (SameIn.below bw5 (by omega)))
      clear Ny
      have BL_15 := Lib.hid (BL_9.out.trans (bw5.mono (by omega)))
      clear BL_9 bw5
      go_wp2_with fail
      refine (implGridMirror_yes _ 0 w5.heap.size b _ (L_12.out.mono (Nat.zero_le _) (by omega)) (Nat.le_refl _) HVB.out).mono ?_
      rintro e w6 ⟨r_16, rfl, ⟨_, _, _, rfl⟩, ow6, bw6⟩
      have Nw6 := Lib.hid (ow6.rd)
      clear ow6
      have sw6 : w5.heap.size ≤ w6.heap.size := bw6.size
      have L_17 := Lib.hid (L_11.out.same (SameIn.below bw6 (by omega)))
      clear L_11
      have L_18 := Lib.hid (L_12.out.same (SameIn.below bw6 (by omega)))
      clear L_12
      have L_19 := Lib.hid (L_13.out.same (SameIn.below bw6 (by omega)))
      clear L_13
      have L_20 := Lib.hid (L_14.out.same (SameIn.below bw6 (by omega)))
      clear L_14
      have L_21 := Lib.hid (Nw5.out.same (SameIn.below bw6 (by omega)))
      clear Nw5
      have BL_22 := Lib.hid (BL_15.out.trans (bw6.mono (by omega)))
      clear BL_15 bw6
      go_wp2_with fail
      refine (implGap_i _ _ 0 w6.heap.size a b _ (L_17.out.mono (Nat.zero_le _) (by omega)) (L_18.out.mono (Nat.zero_le _) (by omega)) (Nat.le_refl _) _ HGP.out).mono ?_
      rintro e w7 ⟨rfl, bw7⟩
      have sw7 : w6.heap.size ≤ w7.heap.size := bw7.size
      have L_23 := Lib.hid (L_17.out.same (SameIn.below bw7 (by omega)))
      clear L_17
      have L_24 := Lib.hid (L_18.out.same (SameIn.below bw7 (by omega)))
      clear L_18
      have L_25 := Lib.hid (L_19.out.same (SameIn.below bw7 (by omega)))
      clear L_19
      have L_26 := Lib.hid (L_20.out.same (SameIn.below bw7 (by omega)))
      clear L_20
      have L_27 := Lib.hid (L_21.out.same (SameIn.below bw7 (by omega)))
      clear L_21
      have L_28 := Lib.hid (Nw6.out.same (SameIn.below bw7 (by omega)))
      clear Nw6
      have BL_29 := Lib.hid (BL_22.out.trans (bw7.mono (by omega)))
      clear BL_22 bw7
      go_wp2_with fail
      refine (sameGrid_any _ _ _ _ _ _ (a) _ (L_25.out.congr (md_a HOK.out)) (L_23.out)).mono ?_
      intro e w8 hq
      obtain ⟨rfl, bw8⟩ := hq.below
      clear hq
      have sw8 : w7.heap.size ≤ w8.heap.size := bw8.size
      have L_30 := Lib.hid (L_23.out.same (SameIn.below bw8 (by omega)))
      clear L_23
      have L_31 := Lib.hid (L_24.out.same (SameIn.below bw8 (by omega)))
      clear L_24
      have L_32 := Lib.hid (L_25.out.same (SameIn.below bw8 (by omega)))
      clear L_25
      have L_33 := Lib.hid (L_26.out.same (SameIn.below bw8 (by omega)))
      clear L_26
      have L_34 := Lib.hid (L_27.out.same (SameIn.below bw8 (by omega)))
      clear L_27
      have L_35 := Lib.hid (L_28.out.same (SameIn.below bw8 (by omega)))
      clear L_28
      have BL_36 := Lib.hid (BL_29.out.trans (bw8.mono (by omega)))
      clear BL_29 bw8
      go_wp2_with fail
      refine (sameGrid_any _ _ _ _ _ _ (b) _ (L_33.out.congr (md_b HOK.out)) (L_31.out)).mono ?_
      intro e w9 hq
      obtain ⟨rfl, bw9⟩ := hq.below
      clear hq
      have sw9 : w8.heap.size ≤ w9.heap.size := bw9.size
      have L_37 := Lib.hid (L_30.out.same (SameIn.below bw9 (by omega)))
      clear L_30
      have L_38 := Lib.hid (L_31.out.same (SameIn.below bw9 (by omega)))
      clear L_31
      have L_39 := Lib.hid (L_32.out.same (SameIn.below bw9 (by omega)))
      clear L_32
      have L_40 := Lib.hid (L_33.out.same (SameIn.below bw9 (by omega)))
      clear L_33
      have L_41 := Lib.hid (L_34.out.same (SameIn.below bw9 (by omega)))
      clear L_34
      have L_42 := Lib.hid (L_35.out.same (SameIn.below bw9 (by omega)))
      clear L_35
      have BL_43 := Lib.hid (BL_36.out.trans (bw9.mono (by omega)))
      clear BL_36 bw9
      go_wp2_with fail
      refine (implAgree_b _ _ 0 w9.heap.size (mirrorG b) (mirrorG a) _ (L_42.out.mono (Nat.zero_le _) (by omega)) (L_41.out.mono (Nat.zero_le _) (by omega)) (Nat.le_refl _) true HMR.out).mono ?_
      rintro e w10 ⟨rfl, bw10⟩
      have sw10 : w9.heap.size ≤ w10.heap.size := bw10.size
      have L_44 := Lib.hid (L_37.out.same (SameIn.below bw10 (by omega)))
      clear L_37
      have L_45 := Lib.hid (L_38.out.same (SameIn.below bw10 (by omega)))
      clear L_38
      have L_46 := Lib.hid (L_39.out.same (SameIn.below bw10 (by omega)))
      clear L_39
      have L_47 := Lib.hid (L_40.out.same (SameIn.below bw10 (by omega)))
      clear L_40
      have L_48 := Lib.hid (L_41.out.same (SameIn.below bw10 (by omega)))
      clear L_41
      have L_49 := Lib.hid (L_42.out.same (SameIn.below bw10 (by omega)))
      clear L_42
      have BL_50 := Lib.hid (BL_43.out.trans (bw10.mono (by omega)))
      clear BL_43 bw10
      go_wp2
      go_ret
      exact ⟨rfl, BL_50.out⟩
end Go.Proofs.Ytjllmidagcniaaa
