/- The law FnEye of the promises: its walk. -/
import Derived.Test.YtgcebhmenffbjabPrEd
namespace Go.Proofs.Ytgcebhmenffbjab
open Go.RowKit
set_option linter.unusedVariables false

set_option maxHeartbeats 4000000 in
set_option maxRecDepth 100000 in
theorem law_FnEye (v : Value) (n : Nat) (w : World) (hv : RdB w.heap.size w v n) : Calls Try.prog 6 #[v] w (LawPost w) := by
  have HD := Lib.hid (draw_DrawProfileEye v n w.heap.size w hv (Nat.le_refl _))
  obtain ⟨ao, cap, cb, off, Z, rfl, hc1, hc2, _⟩ := hv
  by_cases hn : 1048576 < n
  · have hn' : (1048576 : Int) < n := by omega
    go_enter Try.func6, Try.ntmps6
    go_wp2
    go_ret
    exact ⟨rfl, Below.refl _ _⟩
  · have hn' : ¬ (1048576 : Int) < n := by omega
    go_enter Try.func6, Try.ntmps6
    go_wp2_with fail
    refine HD.out.mono ?_
    rintro e w1 ⟨vp, n0, z0, i0, k0, rfl, _, hm, hn9, hzz, hi0, hk0, bw1⟩
    obtain ⟨ap, cp, rfl⟩ := hm.shape
    have R_p := Lib.hid hm
    have HZZ := Lib.hid hzz
    clear hm hzz HD
    have sw1 : w.heap.size ≤ w1.heap.size := bw1.size
    have BL := Lib.hid bw1
    clear bw1
    by_cases hok : PrAt n0 z0 i0 ∧ PrAt n0 z0 k0
    case neg =>
      have hsf := eyV_no hok
      go_wp2_with fail
      refine (implEye_b _ 0 w1.heap.size n0 z0 i0 k0 (-1) _ (R_p.out.mono (Nat.zero_le _) (by omega)) (Nat.le_refl _) hi0 hk0 hsf).mono ?_
      rintro e w2 ⟨rfl, bw2⟩
      have sw2 : w1.heap.size ≤ w2.heap.size := bw2.size
      have L_1 := Lib.hid (R_p.out.same (SameIn.below bw2 (by omega)))
      clear R_p
      have BL_2 := Lib.hid (BL.out.trans (bw2.mono (by omega)))
      clear BL bw2
      go_wp2_with fail
      refine (specEye_b _ 0 w2.heap.size n0 z0 i0 k0 (-1) _ (L_1.out.mono (Nat.zero_le _) (by omega)) (Nat.le_refl _) hsf).mono ?_
      rintro e w3 ⟨rfl, bw3⟩
      have sw3 : w2.heap.size ≤ w3.heap.size := bw3.size
      have L_3 := Lib.hid (L_1.out.same (SameIn.below bw3 (by omega)))
      clear L_1
      have BL_4 := Lib.hid (BL_2.out.trans (bw3.mono (by omega)))
      clear BL_2 bw3
      go_wp2
      go_ret
      exact ⟨rfl, BL_4.out⟩
    case pos =>
      obtain ⟨x, rfl, hxn⟩ := hok.1.nat
      obtain ⟨y, rfl, hyn⟩ := hok.2.nat
      have hPr := hok.1.1
      have hn20 := hPr.1.2
      obtain ⟨m, hm⟩ := eye_is z0 x y
      have hey := eyV_is hok.1 hok.2 hm
      clear hok
      obtain ⟨i0', hi00, hz00, hz10, hz20⟩ := info_parts Try.infoI
      go_wp2_with fail
      refine (implEye_b _ 0 w1.heap.size n0 z0 x y m _ (R_p.out.mono (Nat.zero_le _) (by omega)) (Nat.le_refl _) hi0 hk0 hey).mono ?_
      rintro e w2 ⟨rfl, bw2⟩
      have sw2 : w1.heap.size ≤ w2.heap.size := bw2.size
      have L_1 := Lib.hid (R_p.out.same (SameIn.below bw2 (by omega)))
      clear R_p
      have BL_2 := Lib.hid (BL.out.trans (bw2.mono (by omega)))
      clear BL bw2
      go_wp2_with fail
      refine (specEye_b _ 0 w2.heap.size n0 z0 x y m _ (L_1.out.mono (Nat.zero_le _) (by omega)) (Nat.le_refl _) hey).mono ?_
      rintro e w3 ⟨rfl, bw3⟩
      have sw3 : w2.heap.size ≤ w3.heap.size := bw3.size
      have L_3 := Lib.hid (L_1.out.same (SameIn.below bw3 (by omega)))
      clear L_1
      have BL_4 := Lib.hid (BL_2.out.trans (bw3.mono (by omega)))
      clear BL_2 bw3
      have hmm : (m != m) = false := by simp
      have hme : (m == m) = true := by simp
      rcases hm with ⟨m1, m2, m3, m4⟩ | ⟨rfl, _⟩
      case inr =>
        go_wp2
        go_ret
        exact ⟨rfl, BL_4.out⟩
      case inl =>
        obtain ⟨bP, oP, capP, e1, k1, _, k3, k4⟩ := L_3.out.open (by omega)
        have HRP := Lib.hid L_3.out
        have HRNG := Lib.hid L_3.out.range
        simp only [Value.slice.injEq] at e1
        obtain ⟨rfl, _, rfl⟩ := e1
        have HCC := Lib.hid (fun (W : World) (hb : Below w3.heap.size w3 W) (j : Nat) (hj : j < n0) => (hb.cell (p := ⟨bP, oP + j, none⟩) (by show bP < _; omega)).trans (k4 j hj))
        clear k4 hey
        have HW := Lib.hid (cp_one z0 n0)
        have HLEN := Lib.hid (cp_len z0 n0)
        have HBZa := Lib.hid (Below.refl w3.heap.size w3)
        have hzx := hPr.2 x hxn
        obtain ⟨zx, hezx⟩ : ∃ q, z0 x = q := ⟨_, rfl⟩
        have ezx := Lib.hid hezx
        rw [hezx] at hzx
        obtain ⟨hz1, hz2⟩ := hzx
        have m0' : ¬ m < 0 := by omega
        have hxn' : (x : Int) < n0 := by omega
        have HS0 := Lib.hid (show ∀ e : Int, 0 ≤ e → e < m → ¬ Sees z0 x y e from m4)
        have HSM := Lib.hid m3
        have HPR := Lib.hid hPr
        clear hezx m3 m4
        by_cases hxy : x = y
        · subst hxy
          have hxx : ((x : Int) == x) = true := by simp
          have hm0 : (m == 0) = true := by
            rw [beq_iff_eq]
            by_cases e : m = 0
            · exact e
            · exact absurd (sees_self z0 x 0) (HS0.out 0 (by omega) (by omega))
          go_wp2_with (first | (have hgo := HPUTa.out; have HBZb := HBZZa; at_builtin; have HLb := Lib.hid (show ((w8a.setCell ⟨b2a, x, none⟩ (.int .i64 (zx + m))).alloc (.cells #[] 3)).ownsRow w8a.heap.size 3 1 (.slice (some ⟨w8a.heap.size, 0, none⟩) 0 0) 0 [] from nums_set _ _ _); have HBab := Lib.hid (HBZb.out.alloc HBZb.out.size (.cells #[] 3)); have HNb := Lib.hid (cp_news (Z := z0) (n := n0) (fun q hq => HCC.out _ HBab.out q hq)); refine wpList_append_own _ rfl _ _ 23 rfl (w8a.heap.size) 3 i0' (.int .i64 0) 1 8 Try.underlying23 hi00 hz00 hz10 hz20 rfl (by decide) _ 0 [] rfl HLb.out ⟨bP, oP, none⟩ n0 cp (nsV (fnL z0 n0)) rfl HLEN.out HNb.out HW.out (by unfold maxLen; omega) (by omega) (by rw [World.size_alloc, set_size]; omega) ?_; intro vb w8b hownb hgb _; have HOb := Lib.hid (cp_own hownb HRNG.out); have HB8b := Lib.hid (HBab.out.grown hgb HBab.out.size (fun k hk => by have h1 := (HLb.out.lt k hk).1; have h2 := HB8a.out.size; omega)); have HY1 := Lib.hid ((Below.refl w8a.heap.size (w8a.setCell ⟨b2a, x, none⟩ (.int .i64 (zx + m)))).alloc (by rw [set_size]; omega) (.cells #[] 3)); have HY2 := Lib.hid (HY1.out.grown hgb (by rw [World.size_alloc, set_size]; omega) (fun k hk => (HLb.out.lt k hk).1)); clear hgb hownb; obtain ⟨b2b, capb, rfl, k5b, k6b, k7b⟩ := owI_block HOb.out (by omega); obtain ⟨c5b, f5b⟩ := owI_cellAt HOb.out hxn; rw [ezx.out] at c5b; have HPUTb := Lib.hid (owI_put HOb.out hxn (zx + m - 1) (by omega)); have HBZZb := Lib.hid (HB8b.out.setCell (p := ⟨b2b, x, none⟩) (show w3.heap.size ≤ b2b from by have h2 := HB8a.out.size; omega) (.int .i64 (zx + m - 1)))) | (have hgo := HPUTa.out; have HBZb := HBZZa; at_builtin; have HLb := Lib.hid (show ((w8a.setCell ⟨b2a, x, none⟩ (.int .i64 (zx + m))).alloc (.cells #[] 3)).ownsRow (w8a.setCell ⟨b2a, x, none⟩ (.int .i64 (zx + m))).heap.size 3 1 (.slice (some ⟨(w8a.setCell ⟨b2a, x, none⟩ (.int .i64 (zx + m))).heap.size, 0, none⟩) 0 0) 0 [] from nums_lit (w8a.setCell ⟨b2a, x, none⟩ (.int .i64 (zx + m)))); have HBab := Lib.hid (HBZb.out.alloc HBZb.out.size (.cells #[] 3)); have HNb := Lib.hid (cp_news (Z := z0) (n := n0) (fun q hq => HCC.out _ HBab.out q hq)); refine wpList_append_own _ rfl _ _ 23 rfl ((w8a.setCell ⟨b2a, x, none⟩ (.int .i64 (zx + m))).heap.size) 3 i0' (.int .i64 0) 1 8 Try.underlying23 hi00 hz00 hz10 hz20 rfl (by decide) _ 0 [] rfl HLb.out ⟨bP, oP, none⟩ n0 cp (nsV (fnL z0 n0)) rfl HLEN.out HNb.out HW.out (by unfold maxLen; omega) (by omega) (by simp) ?_; intro vb w8b hownb hgb _; have HOb := Lib.hid (cp_own hownb HRNG.out); have HB8b := Lib.hid (HBab.out.grown hgb HBab.out.size (fun k hk => by have h1 := (HLb.out.lt k hk).1; have h2 := HB8a.out.size; rw [set_size] at h1; omega)); have HY1 := Lib.hid ((Below.refl w8a.heap.size (w8a.setCell ⟨b2a, x, none⟩ (.int .i64 (zx + m)))).alloc (by rw [set_size]; omega) (.cells #[] 3)); have HY2 := Lib.hid (HY1.out.grown hgb (by rw [World.size_alloc, set_size]; omega) (fun k hk => by have h1 := (HLb.out.lt k hk).1; rw [set_size] at h1; exact h1)); clear hgb hownb; obtain ⟨b2b, capb, rfl, k5b, k6b, k7b⟩ := owI_block HOb.out (by omega); obtain ⟨c5b, f5b⟩ := owI_cellAt HOb.out hxn; rw [ezx.out] at c5b; have HPUTb := Lib.hid (owI_put HOb.out hxn (zx + m - 1) (by omega)); have HBZZb := Lib.hid (HB8b.out.setCell (p := ⟨b2b, x, none⟩) (show w3.heap.size ≤ b2b from by have h2 := HB8a.out.size; have h3 := k5b; rw [set_size] at h3; omega) (.int .i64 (zx + m - 1)))) | (at_builtin; have HLa := Lib.hid (show (w3.alloc (.cells #[] 3)).ownsRow w3.heap.size 3 1 (.slice (some ⟨w3.heap.size, 0, none⟩) 0 0) 0 [] from nums_lit w3); have HBaa := Lib.hid (HBZa.out.alloc HBZa.out.size (.cells #[] 3)); have HNa := Lib.hid (cp_news (Z := z0) (n := n0) (fun q hq => HCC.out _ HBaa.out q hq)); refine wpList_append_own _ rfl _ _ 23 rfl (w3.heap.size) 3 i0' (.int .i64 0) 1 8 Try.underlying23 hi00 hz00 hz10 hz20 rfl (by decide) _ 0 [] rfl HLa.out ⟨bP, oP, none⟩ n0 cp (nsV (fnL z0 n0)) rfl HLEN.out HNa.out HW.out (by unfold maxLen; omega) (by omega) (by simp) ?_; intro va w8a howna hga _; have HOa := Lib.hid (cp_own howna HRNG.out); have HB8a := Lib.hid (HBaa.out.grown hga HBaa.out.size (fun k hk => by have h1 := (HLa.out.lt k hk).1; omega)); clear hga howna; obtain ⟨b2a, capa, rfl, k5a, k6a, k7a⟩ := owI_block HOa.out (by omega); obtain ⟨c5a, f5a⟩ := owI_cellAt HOa.out hxn; rw [ezx.out] at c5a; have HPUTa := Lib.hid (owI_put HOa.out hxn (zx + m) (by omega)); have HBZZa := Lib.hid (HB8a.out.setCell (p := ⟨b2a, x, none⟩) (show w3.heap.size ≤ b2a from by omega) (.int .i64 (zx + m)))))
          go_ret
          exact ⟨rfl, BL_4.out.trans (HBZZb.out.mono (by omega))⟩
        · have hxyb : ((x : Int) == y) = false := by rw [beq_eq_false_iff_ne]; omega
          obtain ⟨b0, hb0⟩ : ∃ b, (m == 0) = b := ⟨_, rfl⟩
          have hst : ssB n0 z0 x y = b0 := by
            by_cases e : m = 0
            · have h1 : b0 = true := by rw [← hb0, beq_iff_eq]; exact e
              have h2 := HSM.out
              rw [e] at h2
              rw [h1]; exact ss_at HPR.out hxn hyn h2
            · have h1 : b0 = false := by rw [← hb0, beq_eq_false_iff_ne]; exact e
              rw [h1]
              exact ssB_no (fun g => HS0.out 0 (by omega) (by omega) g.2)
          have hsy : b0 = false → ssB n0 (setZ z0 x (zx + m - 1)) x y = false := fun h1 => by
            have e : m ≠ 0 := by
              intro e
              rw [e] at hb0
              rw [← hb0] at h1
              simp at h1
            have h2 := ssB_eye_no (n := n0) (z := z0) hxy (HS0.out (m - 1) (by omega) (by omega))
            rw [ezx.out] at h2
            rwa [show zx + (m - 1) = zx + m - 1 by omega] at h2
          have hsx : PrOk n0 (setZ z0 x (zx + m)) → ssB n0 (setZ z0 x (zx + m)) x y = true := fun hv => by
            have h2 := ssB_eye_yes (n := n0) (z := z0) (m := m) (by rw [ezx.out]; exact hv) hxn hyn hxy HSM.out
            rwa [ezx.out] at h2
          have HSY := Lib.hid hsy
          have HSX := Lib.hid hsx
          have HST := Lib.hid hst
          have hbb : (b0 == b0) = true := by simp
          clear hsy hsx hst hxy
          go_wp2_with (first | (have hgo := HPUTa.out; have HBZb := HBZZa; at_builtin; have HLb := Lib.hid (show ((w8a.setCell ⟨b2a, x, none⟩ (.int .i64 (zx + m))).alloc (.cells #[] 3)).ownsRow w8a.heap.size 3 1 (.slice (some ⟨w8a.heap.size, 0, none⟩) 0 0) 0 [] from nums_set _ _ _); have HBab := Lib.hid (HBZb.out.alloc HBZb.out.size (.cells #[] 3)); have HNb := Lib.hid (cp_news (Z := z0) (n := n0) (fun q hq => HCC.out _ HBab.out q hq)); refine wpList_append_own _ rfl _ _ 23 rfl (w8a.heap.size) 3 i0' (.int .i64 0) 1 8 Try.underlying23 hi00 hz00 hz10 hz20 rfl (by decide) _ 0 [] rfl HLb.out ⟨bP, oP, none⟩ n0 cp (nsV (fnL z0 n0)) rfl HLEN.out HNb.out HW.out (by unfold maxLen; omega) (by omega) (by rw [World.size_alloc, set_size]; omega) ?_; intro vb w8b hownb hgb _; have HOb := Lib.hid (cp_own hownb HRNG.out); have HB8b := Lib.hid (HBab.out.grown hgb HBab.out.size (fun k hk => by have h1 := (HLb.out.lt k hk).1; have h2 := HB8a.out.size; omega)); have HY1 := Lib.hid ((Below.refl w8a.heap.size (w8a.setCell ⟨b2a, x, none⟩ (.int .i64 (zx + m)))).alloc (by rw [set_size]; omega) (.cells #[] 3)); have HY2 := Lib.hid (HY1.out.grown hgb (by rw [World.size_alloc, set_size]; omega) (fun k hk => (HLb.out.lt k hk).1)); clear hgb hownb; obtain ⟨b2b, capb, rfl, k5b, k6b, k7b⟩ := owI_block HOb.out (by omega); obtain ⟨c5b, f5b⟩ := owI_cellAt HOb.out hxn; rw [ezx.out] at c5b; have HPUTb := Lib.hid (owI_put HOb.out hxn (zx + m - 1) (by omega)); have HBZZb := Lib.hid (HB8b.out.setCell (p := ⟨b2b, x, none⟩) (show w3.heap.size ≤ b2b from by have h2 := HB8a.out.size; omega) (.int .i64 (zx + m - 1)))) | (have hgo := HPUTa.out; have HBZb := HBZZa; at_builtin; have HLb := Lib.hid (show ((w8a.setCell ⟨b2a, x, none⟩ (.int .i64 (zx + m))).alloc (.cells #[] 3)).ownsRow (w8a.setCell ⟨b2a, x, none⟩ (.int .i64 (zx + m))).heap.size 3 1 (.slice (some ⟨(w8a.setCell ⟨b2a, x, none⟩ (.int .i64 (zx + m))).heap.size, 0, none⟩) 0 0) 0 [] from nums_lit (w8a.setCell ⟨b2a, x, none⟩ (.int .i64 (zx + m)))); have HBab := Lib.hid (HBZb.out.alloc HBZb.out.size (.cells #[] 3)); have HNb := Lib.hid (cp_news (Z := z0) (n := n0) (fun q hq => HCC.out _ HBab.out q hq)); refine wpList_append_own _ rfl _ _ 23 rfl ((w8a.setCell ⟨b2a, x, none⟩ (.int .i64 (zx + m))).heap.size) 3 i0' (.int .i64 0) 1 8 Try.underlying23 hi00 hz00 hz10 hz20 rfl (by decide) _ 0 [] rfl HLb.out ⟨bP, oP, none⟩ n0 cp (nsV (fnL z0 n0)) rfl HLEN.out HNb.out HW.out (by unfold maxLen; omega) (by omega) (by simp) ?_; intro vb w8b hownb hgb _; have HOb := Lib.hid (cp_own hownb HRNG.out); have HB8b := Lib.hid (HBab.out.grown hgb HBab.out.size (fun k hk => by have h1 := (HLb.out.lt k hk).1; have h2 := HB8a.out.size; rw [set_size] at h1; omega)); have HY1 := Lib.hid ((Below.refl w8a.heap.size (w8a.setCell ⟨b2a, x, none⟩ (.int .i64 (zx + m)))).alloc (by rw [set_size]; omega) (.cells #[] 3)); have HY2 := Lib.hid (HY1.out.grown hgb (by rw [World.size_alloc, set_size]; omega) (fun k hk => by have h1 := (HLb.out.lt k hk).1; rw [set_size] at h1; exact h1)); clear hgb hownb; obtain ⟨b2b, capb, rfl, k5b, k6b, k7b⟩ := owI_block HOb.out (by omega); obtain ⟨c5b, f5b⟩ := owI_cellAt HOb.out hxn; rw [ezx.out] at c5b; have HPUTb := Lib.hid (owI_put HOb.out hxn (zx + m - 1) (by omega)); have HBZZb := Lib.hid (HB8b.out.setCell (p := ⟨b2b, x, none⟩) (show w3.heap.size ≤ b2b from by have h2 := HB8a.out.size; have h3 := k5b; rw [set_size] at h3; omega) (.int .i64 (zx + m - 1)))) | (at_builtin; have HLa := Lib.hid (show (w3.alloc (.cells #[] 3)).ownsRow w3.heap.size 3 1 (.slice (some ⟨w3.heap.size, 0, none⟩) 0 0) 0 [] from nums_lit w3); have HBaa := Lib.hid (HBZa.out.alloc HBZa.out.size (.cells #[] 3)); have HNa := Lib.hid (cp_news (Z := z0) (n := n0) (fun q hq => HCC.out _ HBaa.out q hq)); refine wpList_append_own _ rfl _ _ 23 rfl (w3.heap.size) 3 i0' (.int .i64 0) 1 8 Try.underlying23 hi00 hz00 hz10 hz20 rfl (by decide) _ 0 [] rfl HLa.out ⟨bP, oP, none⟩ n0 cp (nsV (fnL z0 n0)) rfl HLEN.out HNa.out HW.out (by unfold maxLen; omega) (by omega) (by simp) ?_; intro va w8a howna hga _; have HOa := Lib.hid (cp_own howna HRNG.out); have HB8a := Lib.hid (HBaa.out.grown hga HBaa.out.size (fun k hk => by have h1 := (HLa.out.lt k hk).1; omega)); clear hga howna; obtain ⟨b2a, capa, rfl, k5a, k6a, k7a⟩ := owI_block HOa.out (by omega); obtain ⟨c5a, f5a⟩ := owI_cellAt HOa.out hxn; rw [ezx.out] at c5a; have HPUTa := Lib.hid (owI_put HOa.out hxn (zx + m) (by omega)); have HBZZa := Lib.hid (HB8a.out.setCell (p := ⟨b2a, x, none⟩) (show w3.heap.size ≤ b2a from by omega) (.int .i64 (zx + m)))))
          have HY3 := Lib.hid (HY2.out.setCell (p := ⟨b2b, x, none⟩) (show w8a.heap.size ≤ b2b by have h := k5b; first | exact h | (rw [set_size] at h; exact h)) (.int .i64 (zx + m - 1)))
          have HXZ := Lib.hid (HPUTa.out.rd.same (SameIn.below HY3.out (Nat.le_refl _)))
          have HYZ := Lib.hid HPUTb.out.rd
          have hsza := HY3.out.size
          rw [set_size] at hsza
          have hszb := set_size w8b ⟨b2b, x, none⟩ (.int .i64 (zx + m - 1))
          generalize hWZ : w8b.setCell ⟨b2b, x, none⟩ (.int .i64 (zx + m - 1)) = WZ at *
          clear hWZ HPUTa HPUTb HBZZa HBZb HY1 HY2 HY3
          have hszz := HBZZb.out.size
          refine (implSees_b _ 0 w3.heap.size n0 z0 x y b0 _ ((HRP.out.same (SameIn.below HBZZb.out (by omega))).mono (Nat.zero_le _) (by omega)) hszz hi0 hk0 HST.out).mono ?_
          rintro e w9 ⟨rfl, b9⟩
          have HB9 := Lib.hid (HBZZb.out.trans (b9.mono hszz))
          have HX9 := Lib.hid (HXZ.out.same (SameIn.below b9 (by omega)))
          have HY9 := Lib.hid (HYZ.out.same (SameIn.below b9 (by omega)))
          have hs9 := b9.size
          clear b9 HXZ HYZ
          by_cases hval : PrOk n0 (setZ z0 x (zx + m))
          · have hpb := prB_yes hval
            have hs1 := HSX.out hval
            go_wp2_with fail
            refine (implValid_b _ _ _ n0 (setZ z0 x (zx + m)) true _ HX9.out hpb).mono ?_
            rintro e w10 ⟨rfl, rfl⟩
            go_wp2_with fail
            refine (implSees_b _ _ _ n0 (setZ z0 x (zx + m)) x y true _ HX9.out (by omega) hi0 hk0 hs1).mono ?_
            rintro e w11 ⟨rfl, b11⟩
            have HB11 := Lib.hid (HB9.out.trans (b11.mono HB9.out.size))
            have HY11 := Lib.hid (HY9.out.same (SameIn.below b11 (by omega)))
            have hs11 := b11.size
            clear b11 hval hpb hs1
            cases b0 with
            | true =>
              go_wp2
              go_ret
              exact ⟨rfl, BL_4.out.trans (HB11.out.mono (by omega))⟩
            | false =>
              have hs2 := HSY.out rfl
              go_wp2_with fail
              refine (implSees_b _ _ _ n0 (setZ z0 x (zx + m - 1)) x y false _ HY11.out (by omega) hi0 hk0 hs2).mono ?_
              rintro e w12 ⟨rfl, b12⟩
              have HB12 := Lib.hid (HB11.out.trans (b12.mono HB11.out.size))
              clear b12
              go_wp2
              go_ret
              exact ⟨rfl, BL_4.out.trans (HB12.out.mono (by omega))⟩
          · have hpb := prB_no hval
            go_wp2_with fail
            refine (implValid_b _ _ _ n0 (setZ z0 x (zx + m)) false _ HX9.out hpb).mono ?_
            rintro e w10 ⟨rfl, rfl⟩
            clear hval hpb
            cases b0 with
            | true =>
              go_wp2
              go_ret
              exact ⟨rfl, BL_4.out.trans (HB9.out.mono (by omega))⟩
            | false =>
              have hs2 := HSY.out rfl
              go_wp2_with fail
              refine (implSees_b _ _ _ n0 (setZ z0 x (zx + m - 1)) x y false _ HY9.out (by omega) hi0 hk0 hs2).mono ?_
              rintro e w12 ⟨rfl, b12⟩
              have HB12 := Lib.hid (HB9.out.trans (b12.mono HB9.out.size))
              clear b12
              go_wp2
              go_ret
              exact ⟨rfl, BL_4.out.trans (HB12.out.mono (by omega))⟩
end Go.Proofs.Ytgcebhmenffbjab
