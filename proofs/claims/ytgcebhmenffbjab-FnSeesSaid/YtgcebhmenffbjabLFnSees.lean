/- The law FnSees of the promises: its walk. -/
import Derived.Test.YtgcebhmenffbjabPrEc
namespace Go.Proofs.Ytgcebhmenffbjab
open Go.RowKit
set_option linter.unusedVariables false

set_option maxHeartbeats 4000000 in
set_option maxRecDepth 100000 in
theorem law_FnSees (v : Value) (n : Nat) (w : World) (hv : RdB w.heap.size w v n) : Calls Try.prog 3 #[v] w (LawPost w) := by
  have HD := Lib.hid (draw_DrawProfileSees v n w.heap.size w hv (Nat.le_refl _))
  obtain ⟨ao, cap, cb, off, Z, rfl, hc1, hc2, _⟩ := hv
  by_cases hn : 1048576 < n
  · have hn' : (1048576 : Int) < n := by omega
    go_enter Try.func3, Try.ntmps3
    go_wp2
    go_ret
    exact ⟨rfl, Below.refl _ _⟩
  · have hn' : ¬ (1048576 : Int) < n := by omega
    go_enter Try.func3, Try.ntmps3
    go_wp2_with fail
    refine HD.out.mono ?_
    rintro e w1 ⟨vp, n0, z0, i0, k0, rfl, _, hm, hn9, hzz, hi0, hk0, bw1⟩
    obtain ⟨ap, cp, rfl⟩ := hm.shape
    have R_p := Lib.hid hm
    have HZZ := Lib.hid hzz
    clear hm hzz HD
    have sw1 : w.heap.size ≤ w1.heap.size := bw1.size
    have BL := Lib.hid bw1
    clear bw1
    by_cases hok : SsOk n0 z0 i0 k0
    case neg =>
      have hsf := ssB_no hok
      go_wp2_with fail
      refine (implSees_b _ 0 w1.heap.size n0 z0 i0 k0 false _ (R_p.out.mono (Nat.zero_le _) (by omega)) (Nat.le_refl _) hi0 hk0 hsf).mono ?_
      rintro e w2 ⟨rfl, bw2⟩
      have sw2 : w1.heap.size ≤ w2.heap.size := bw2.size
      have L_1 := Lib.hid (R_p.out.same (SameIn.below bw2 (by omega)))
      clear R_p
      have BL_2 := Lib.hid (BL.out.trans (bw2.mono (by omega)))
      clear BL bw2
      go_wp2_with fail
      refine (specSees_b _ 0 w2.heap.size n0 z0 i0 k0 false _ (L_1.out.mono (Nat.zero_le _) (by omega)) (Nat.le_refl _) hsf).mono ?_
      rintro e w3 ⟨rfl, bw3⟩
      have sw3 : w2.heap.size ≤ w3.heap.size := bw3.size
      have L_3 := Lib.hid (L_1.out.same (SameIn.below bw3 (by omega)))
      clear L_1
      have BL_4 := Lib.hid (BL_2.out.trans (bw3.mono (by omega)))
      clear BL_2 bw3
      go_wp2
      go_ret
      exact ⟨rfl, BL_4.out⟩
    case pos =>
      obtain ⟨x, rfl, hxn⟩ := hok.1.1.nat
      obtain ⟨y, rfl, hyn⟩ := hok.1.2.nat
      have hs : Sees z0 x y 0 := hok.2
      have hPr := hok.1.1.1
      have hn20 := hPr.1.2
      have hst := ss_at hPr hxn hyn hs
      have hst2 := ss_at hPr hyn hxn (sees_symm hs)
      have hst3 := ss_rev hPr hxn hyn hs
      obtain ⟨mn, emn⟩ : ∃ mn : Nat, min (x : Int) (y : Int) = mn := ⟨min x y, by omega⟩
      obtain ⟨mx, emx⟩ : ∃ mx : Nat, max (x : Int) (y : Int) = mx := ⟨max x y, by omega⟩
      have hm1 : mn ≤ x ∧ mn ≤ y ∧ (mn = x ∨ mn = y) := by omega
      have hm2 : x ≤ mx ∧ y ≤ mx ∧ (mx = x ∨ mx = y) := by omega
      have HLOW := Lib.hid (fun (j : Nat) (h1 : mn < j) (h2 : j < mx) (hj : j < n0) (X : Int) (hX0 : 0 ≤ X) (hX : X ≤ z0 j) => ss_low (n := n0) hPr hxn hyn hs (show j ≠ x by omega) (show j ≠ y by omega) hX0 hX hj)
      have HZ := Lib.hid hPr.2
      clear hok
      obtain ⟨i0', hi00, hz00, hz10, hz20⟩ := info_parts Try.infoI
      go_wp2_with fail
      refine (implSees_b _ 0 w1.heap.size n0 z0 x y true _ (R_p.out.mono (Nat.zero_le _) (by omega)) (Nat.le_refl _) hi0 hk0 hst).mono ?_
      rintro e w2 ⟨rfl, bw2⟩
      have sw2 : w1.heap.size ≤ w2.heap.size := bw2.size
      have L_1 := Lib.hid (R_p.out.same (SameIn.below bw2 (by omega)))
      clear R_p
      have BL_2 := Lib.hid (BL.out.trans (bw2.mono (by omega)))
      clear BL bw2
      go_wp2_with fail
      refine (specSees_b _ 0 w2.heap.size n0 z0 x y true _ (L_1.out.mono (Nat.zero_le _) (by omega)) (Nat.le_refl _) hst).mono ?_
      rintro e w3 ⟨rfl, bw3⟩
      have sw3 : w2.heap.size ≤ w3.heap.size := bw3.size
      have L_3 := Lib.hid (L_1.out.same (SameIn.below bw3 (by omega)))
      clear L_1
      have BL_4 := Lib.hid (BL_2.out.trans (bw3.mono (by omega)))
      clear BL_2 bw3
      go_wp2_with fail
      refine (implBack_yes _ 0 w3.heap.size n0 z0 _ (L_3.out.mono (Nat.zero_le _) (by omega)) (Nat.le_refl _) hPr).mono ?_
      rintro e w4 ⟨_, rfl, ⟨_, _, _, rfl⟩, ow4, bw4⟩
      have Nw4 := Lib.hid (ow4.rd)
      clear ow4
      have sw4 : w3.heap.size ≤ w4.heap.size := bw4.size
      have L_5 := Lib.hid (L_3.out.same (SameIn.below bw4 (by omega)))
      clear L_3
      have BL_6 := Lib.hid (BL_4.out.trans (bw4.mono (by omega)))
      clear BL_4 bw4
      go_wp2_with fail
      refine (implSees_b _ 0 w4.heap.size n0 z0 y x true _ (L_5.out.mono (Nat.zero_le _) (by omega)) (Nat.le_refl _) hk0 hi0 hst2).mono ?_
      rintro e w5 ⟨rfl, bw5⟩
      have sw5 : w4.heap.size ≤ w5.heap.size := bw5.size
      have L_7 := Lib.hid (L_5.out.same (SameIn.below bw5 (by omega)))
      clear L_5
      have L_8 := Lib.hid (Nw4.out.same (SameIn.below bw5 (by omega)))
      clear Nw4
      have BL_9 := Lib.hid (BL_6.out.trans (bw5.mono (by omega)))
      clear BL_6 bw5
      go_wp2_with fail
      refine (implSees_b _ 0 w5.heap.size n0 (revZ (n0 - 1) z0) ((n0 : Int) - 1 - x) ((n0 : Int) - 1 - y) true _ (L_8.out.mono (Nat.zero_le _) (by omega)) (Nat.le_refl _) (by omega) (by omega) hst3).mono ?_
      rintro e w6 ⟨rfl, bw6⟩
      have sw6 : w5.heap.size ≤ w6.heap.size := bw6.size
      have L_10 := Lib.hid (L_7.out.same (SameIn.below bw6 (by omega)))
      clear L_7
      have L_11 := Lib.hid (L_8.out.same (SameIn.below bw6 (by omega)))
      clear L_8
      have BL_12 := Lib.hid (BL_9.out.trans (bw6.mono (by omega)))
      clear BL_9 bw6
      have HRP := Lib.hid L_10.out
      obtain ⟨bP, oP, capP, e1, k1, _, k3, k4⟩ := L_10.out.open (by omega)
      simp only [Value.slice.injEq] at e1
      obtain ⟨rfl, _, rfl⟩ := e1
      have HCC := Lib.hid (fun (W : World) (hb : Below w6.heap.size w6 W) (j : Nat) (hj : j < n0) => (hb.cell (p := ⟨bP, oP + j, none⟩) (by show bP < _; omega)).trans (k4 j hj))
      have HRNG := Lib.hid L_10.out.range
      clear k4 hst hst2 hst3 hs
      go_wp2
      go_loopw [11] (fun c wr => ∃ j : Nat, mn + 1 ≤ j ∧ j ≤ mx + 1 ∧ c = .int .i64 j ∧ Below w6.heap.size w6 wr) (fun c _ => mx + 1 - (intOf c).toNat)
      case atStart => exact ⟨mn + 1, by omega, by omega, by go_num, Below.refl _ _⟩
      case round =>
        obtain ⟨j, hj1, hj2, rfl, hb⟩ := hrel
        have HB := Lib.hid hb
        have hszb := hb.size
        clear hb
        by_cases hlt : j < mx
        · have hlt' : (j : Int) < mx := by omega
          have hjn : j < n0 := by omega
          have hjn' : (j : Int) < n0 := by omega
          have HL1 := Lib.hid (nums_lit wr)
          have HB1 := Lib.hid (HB.out.alloc hszb (.cells #[] 3))
          have HN1 := Lib.hid (cp_news (Z := z0) (n := n0) (fun q hq => HCC.out _ HB1.out q hq))
          have HW := Lib.hid (cp_one z0 n0)
          have HLEN := Lib.hid (cp_len z0 n0)
          go_wp2_with (first | (at_builtin; refine wpList_append_own _ rfl _ _ 23 rfl wr.heap.size 3 i0' (.int .i64 0) 1 8 Try.underlying23 hi00 hz00 hz10 hz20 rfl (by decide) _ 0 [] rfl HL1.out ⟨bP, oP, none⟩ n0 cp (nsV (fnL z0 n0)) rfl HLEN.out HN1.out HW.out (by unfold maxLen; omega) (by omega) (by simp) ?_; intro v' w8 hown4 hg4 _; have HG4 := Lib.hid hg4; have HO4 := Lib.hid (cp_own hown4 HRNG.out); have HB8 := Lib.hid (HB1.out.grown hg4 (by simp; omega) (fun k hk => by have := (HL1.out.lt k hk).1; omega)); clear hg4 hown4; obtain ⟨b2, cap2, rfl, k5, k6, k7⟩ := owI_block HO4.out (by omega); obtain ⟨c5, f5⟩ := owI_cellAt HO4.out hjn; have hzj := HZ.out j hjn; have HPUT := Lib.hid (owI_put HO4.out hjn (z0 j - 1) (by omega)); have HB9 := Lib.hid (HB8.out.setCell (p := ⟨b2, j, none⟩) (show w6.heap.size ≤ b2 by omega) (.int .i64 (z0 j - 1))); have HLW := Lib.hid (fun h0 => HLOW.out j (by omega) hlt hjn (z0 j - 1) h0 (by omega)); obtain ⟨zj, ezj⟩ : ∃ q, z0 j = q := ⟨_, rfl⟩; rw [ezj] at c5 hzj HPUT HB9 HLW; obtain ⟨hz1, hz2⟩ := hzj; clear ezj))
          · have h0 : 0 ≤ zj - 1 := by omega
            have hss := HLW.out h0
            have hsz9 := HB9.out.size
            refine (implSees_b _ _ _ n0 (setZ z0 j (zj - 1)) x y true _ (HPUT.out.rd) (by simp [World.setCell]) hi0 hk0 hss).mono ?_
            rintro e w10 ⟨rfl, b10⟩
            have HB10 := Lib.hid (HB9.out.trans (b10.mono hsz9))
            clear b10
            go_wp2
            go_roundw
            case rel => exact ⟨j + 1, by omega, by omega, by go_num, HB10.out⟩
            case measure => simp [intOf]; omega
          · exact ⟨⟨j + 1, by omega, by omega, by go_num, HB9.out⟩, by simp [intOf]; omega⟩
        · have hlt' : ¬ (j : Int) < mx := by omega
          have HBF := Lib.hid (BL_12.out.trans (HB.out.mono (by omega)))
          go_wp2
          go_ret
          exact ⟨rfl, HBF.out⟩
end Go.Proofs.Ytgcebhmenffbjab
