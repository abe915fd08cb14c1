/- The law FnHullSees of the promises: its walk. -/
import Derived.Test.YtgcebhmenffbjabPrEd
import Derived.Test.YtgcebhmenffbjabPrHv
namespace Go.Proofs.Ytgcebhmenffbjab
open Go.RowKit
set_option linter.unusedVariables false

set_option maxHeartbeats 4000000 in
set_option maxRecDepth 100000 in
theorem law_FnHullSees (v : Value) (n : Nat) (v' : Value) (nm : Nat) (w : World) (hv : RdB w.heap.size w v n) (hv' : RdB w.heap.size w v' nm) : Calls Try.prog 8 #[v, v'] w (LawPost w) := by
  have HD := Lib.hid (draw_DrawProfileHull v n w.heap.size w hv (Nat.le_refl _))
  obtain ⟨ao, cap, cb, off, Z, rfl, hc1, hc2, _⟩ := hv
  obtain ⟨ao', cap', cb', off', Z', rfl, hc1', hc2', _⟩ := hv'
  by_cases hn : 1048576 < n
  · have hn' : (1048576 : Int) < n := by omega
    go_enter Try.func8, Try.ntmps8
    go_wp2
    go_ret
    exact ⟨rfl, Below.refl _ _⟩
  by_cases hn2 : 1048576 < nm
  · have hn' : ¬ (1048576 : Int) < n := by omega
    have hn2' : decide ((1048576 : Int) < nm) = true := by simp; omega
    go_enter Try.func8, Try.ntmps8
    go_wp2
    go_ret
    exact ⟨rfl, Below.refl _ _⟩
  · have hn' : ¬ (1048576 : Int) < n := by omega
    have hn2' : decide ((1048576 : Int) < nm) = false := by simp; omega
    go_enter Try.func8, Try.ntmps8
    go_wp2_with fail
    refine HD.out.mono ?_
    rintro e w1 ⟨vp, n0, z0, rfl, _, hm, hn9, hzz, bw1⟩
    obtain ⟨ap, cp, rfl⟩ := hm.shape
    have R_p := Lib.hid hm
    have HZZ := Lib.hid hzz
    clear hm hzz HD
    have sw1 : w.heap.size ≤ w1.heap.size := bw1.size
    have BL := Lib.hid bw1
    clear bw1
    by_cases hok : PrOk n0 z0
    case neg =>
      go_wp2_with fail
      refine (implHull_no _ 0 w1.heap.size n0 z0 _ (R_p.out.mono (Nat.zero_le _) (by omega)) (Nat.le_refl _) hok).mono ?_
      rintro e w2 ⟨_, rfl, ⟨_, _, _, rfl⟩, ow2, bw2⟩
      have Nw2 := Lib.hid (ow2.rd)
      clear ow2
      have sw2 : w1.heap.size ≤ w2.heap.size := bw2.size
      have L_1 := Lib.hid (R_p.out.same (SameIn.below bw2 (by omega)))
      clear R_p
      have BL_2 := Lib.hid (BL.out.trans (bw2.mono (by omega)))
      clear BL bw2
      go_wp2_with fail
      refine (specHull_no _ 0 w2.heap.size n0 z0 _ (L_1.out.mono (Nat.zero_le _) (by omega)) (Nat.le_refl _) hok).mono ?_
      rintro e w3 ⟨_, rfl, ⟨_, _, _, rfl⟩, ow3, bw3⟩
      have Nw3 := Lib.hid (ow3)
      clear ow3
      have sw3 : w2.heap.size ≤ w3.heap.size := bw3.size
      have L_3 := Lib.hid (L_1.out.same (SameIn.below bw3 (by omega)))
      clear L_1
      have L_4 := Lib.hid (Nw2.out.same (SameIn.below bw3 (by omega)))
      clear Nw2
      have BL_5 := Lib.hid (BL_2.out.trans (bw3.mono (by omega)))
      clear BL_2 bw3
      go_wp2_with fail
      refine (sameInts_any _ _ _ _ _ _ (0) _ _ _ L_4.out Nw3.out (fun _ _ => rfl)).mono ?_
      intro e w4 hq
      obtain ⟨rfl, bw4⟩ := hq.bl
      clear hq
      have sw4 : w3.heap.size ≤ w4.heap.size := bw4.size
      have L_6 := Lib.hid (L_3.out.same (SameIn.below bw4 (by omega)))
      clear L_3
      have L_7 := Lib.hid (L_4.out.same (SameIn.below bw4 (by omega)))
      clear L_4
      have L_8 := Lib.hid (Nw3.out.same (SameIn.below bw4 (by omega)))
      clear Nw3
      have BL_9 := Lib.hid (BL_5.out.trans (bw4.mono (by omega)))
      clear BL_5 bw4
      go_wp2_with fail
      refine (sameInts_any _ _ _ _ _ _ (0) _ _ _ L_7.out L_8.out (fun _ _ => rfl)).mono ?_
      intro e w5 hq
      obtain ⟨rfl, bw5⟩ := hq.bl
      clear hq
      have sw5 : w4.heap.size ≤ w5.heap.size := bw5.size
      have L_10 := Lib.hid (L_6.out.same (SameIn.below bw5 (by omega)))
      clear L_6
      have L_11 := Lib.hid (L_7.out.same (SameIn.below bw5 (by omega)))
      clear L_7
      have L_12 := Lib.hid (L_8.out.same (SameIn.below bw5 (by omega)))
      clear L_8
      have BL_13 := Lib.hid (BL_9.out.trans (bw5.mono (by omega)))
      clear BL_9 bw5
      go_wp2
      go_ret
      exact ⟨rfl, BL_13.out⟩
    case pos =>
      have hn1 := hok.1.1
      have hn20 := hok.1.2
      have hre := rev_ok hok
      have HLEN := Lib.hid (huL_len n0 z0 n0)
      have HRL := Lib.hid (huL_rev n0 z0)
      have HNR := Lib.hid (fun i (hi : i < (huL n0 z0 n0).length) => show 0 ≤ nsZ (huL n0 z0 n0) i ∧ nsZ (huL n0 z0 n0) i < n0 from by
        have hm : nsZ (huL n0 z0 n0) i ∈ huL n0 z0 n0 := by
          rw [nsZ, List.getD_eq_getElem?_getD, List.getElem?_eq_getElem hi]; exact List.getElem_mem _
        obtain ⟨q, a, b, _⟩ := (huL_mem n0 z0 n0 _).1 hm
        omega)
      obtain ⟨i0', hi00, hz00, hz10, hz20⟩ := info_parts Try.infoI
      obtain ⟨j, ej⟩ : ∃ j, nm % n0 = j := ⟨_, rfl⟩
      have hjn : j < n0 := by rw [← ej]; exact Nat.mod_lt _ (by omega)
      have hmod : (nm : Int) % (n0 : Int) = j := by rw [← ej]; omega
      have hn0z : ¬ n0 = 0 := by omega
      have HLOW := Lib.hid (fun (h : ¬ Hul n0 z0 j) (X : Int) (hX : X ≤ z0 j) => huL_low (n := n0) hjn h hX)
      have HHAS := Lib.hid (has_hu (n := n0) (z := z0) hjn)
      have HZ := Lib.hid hok.2
      clear ej
      go_wp2_with fail
      refine (implHull_yes _ 0 w1.heap.size n0 z0 _ (R_p.out.mono (Nat.zero_le _) (by omega)) (Nat.le_refl _) hok).mono ?_
      rintro e w2 ⟨_, rfl, ⟨_, _, _, rfl⟩, ow2, bw2⟩
      have Nw2 := Lib.hid (ow2.rd)
      clear ow2
      have sw2 : w1.heap.size ≤ w2.heap.size := bw2.size
      have L_1 := Lib.hid (R_p.out.same (SameIn.below bw2 (by omega)))
      clear R_p
      have BL_2 := Lib.hid (BL.out.trans (bw2.mono (by omega)))
      clear BL bw2
      go_wp2_with fail
      refine (specHull_yes _ 0 w2.heap.size n0 z0 _ (L_1.out.mono (Nat.zero_le _) (by omega)) (Nat.le_refl _) hok).mono ?_
      rintro e w3 ⟨_, rfl, ⟨_, _, _, rfl⟩, ow3, bw3⟩
      have Nw3 := Lib.hid (ow3)
      clear ow3
      have sw3 : w2.heap.size ≤ w3.heap.size := bw3.size
      have L_3 := Lib.hid (L_1.out.same (SameIn.below bw3 (by omega)))
      clear L_1
      have L_4 := Lib.hid (Nw2.out.same (SameIn.below bw3 (by omega)))
      clear Nw2
      have BL_5 := Lib.hid (BL_2.out.trans (bw3.mono (by omega)))
      clear BL_2 bw3
      go_wp2_with fail
      refine (sameInts_any _ _ _ _ _ _ ((huL n0 z0 n0).length) _ _ _ L_4.out Nw3.out (fun _ _ => rfl)).mono ?_
      intro e w4 hq
      obtain ⟨rfl, bw4⟩ := hq.bl
      clear hq
      have sw4 : w3.heap.size ≤ w4.heap.size := bw4.size
      have L_6 := Lib.hid (L_3.out.same (SameIn.below bw4 (by omega)))
      clear L_3
      have L_7 := Lib.hid (L_4.out.same (SameIn.below bw4 (by omega)))
      clear L_4
      have L_8 := Lib.hid (Nw3.out.same (SameIn.below bw4 (by omega)))
      clear Nw3
      have BL_9 := Lib.hid (BL_5.out.trans (bw4.mono (by omega)))
      clear BL_5 bw4
      go_wp2_with fail
      refine (implBack_yes _ 0 w4.heap.size n0 z0 _ (L_6.out.mono (Nat.zero_le _) (by omega)) (Nat.le_refl _) hok).mono ?_
      rintro e w5 ⟨_, rfl, ⟨_, _, _, rfl⟩, ow5, bw5⟩
      have Nw5 := Lib.hid (ow5.rd)
      clear ow5
      have sw5 : w4.heap.size ≤ w5.heap.size := bw5.size
      have L_10 := Lib.hid (L_6.out.same (SameIn.below bw5 (by omega)))
      clear L_6
      have L_11 := Lib.hid (L_7.out.same (SameIn.below bw5 (by omega)))
      clear L_7
      have L_12 := Lib.hid (L_8.out.same (SameIn.below bw5 (by omega)))
      clear L_8
      have BL_13 := Lib.hid (BL_9.out.trans (bw5.mono (by omega)))
      clear BL_9 bw5
      go_wp2_with fail
      refine (implHull_yes _ 0 w5.heap.size n0 (revZ (n0 - 1) z0) _ (Nw5.out.mono (Nat.zero_le _) (by omega)) (Nat.le_refl _) hre).mono ?_
      rintro e w6 ⟨_, rfl, ⟨_, _, _, rfl⟩, ow6, bw6⟩
      have Nw6 := Lib.hid (ow6.rd)
      clear ow6
      have sw6 : w5.heap.size ≤ w6.heap.size := bw6.size
      have L_14 := Lib.hid (L_10.out.same (SameIn.below bw6 (by omega)))
      clear L_10
      have L_15 := Lib.hid (L_11.out.same (SameIn.below bw6 (by omega)))
      clear L_11
      have L_16 := Lib.hid (L_12.out.same (SameIn.below bw6 (by omega)))
      clear L_12
      have L_17 := Lib.hid (Nw5.out.same (SameIn.below bw6 (by omega)))
      clear Nw5
      have BL_18 := Lib.hid (BL_13.out.trans (bw6.mono (by omega)))
      clear BL_13 bw6
      obtain ⟨L, eL⟩ : ∃ L, huL n0 z0 n0 = L := ⟨_, rfl⟩
      rw [HRL.out, rev_len] at Nw6
      rw [eL] at L_15 Nw6 HLEN HNR HLOW HHAS
      obtain ⟨_, _, e0⟩ := (L_15.out).shape
      simp only [Value.slice.injEq] at e0
      obtain ⟨rfl, rfl, rfl⟩ := e0
      obtain ⟨_, _, e0⟩ := (Nw6.out).shape
      simp only [Value.slice.injEq] at e0
      obtain ⟨rfl, rfl, rfl⟩ := e0
      clear eL HRL
      have hlen := HLEN.out
      have HRP := Lib.hid L_14.out
      have HRO := Lib.hid L_15.out
      have HRNG := Lib.hid L_14.out.range
      obtain ⟨bP, oP, capP, e1, k1, _, k3, k4⟩ := L_14.out.open (by omega)
      simp only [Value.slice.injEq] at e1
      obtain ⟨rfl, _, rfl⟩ := e1
      have HCC := Lib.hid (fun (W : World) (hb : Below w6.heap.size w6 W) (q : Nat) (hq : q < n0) => (hb.cell (p := ⟨bP, oP + q, none⟩) (by show bP < _; omega)).trans (k4 q hq))
      clear k4
      have HW := Lib.hid (cp_one z0 n0)
      have HLEN2 := Lib.hid (cp_len z0 n0)
      have hzj := HZ.out j hjn
      obtain ⟨zj, hezj⟩ : ∃ q, z0 j = q := ⟨_, rfl⟩
      have ezj := Lib.hid hezj
      rw [hezj] at hzj HLOW
      obtain ⟨hz1, hz2⟩ := hzj
      have hjn' : (j : Int) < n0 := by omega
      clear hezj
      have hLL : ((L.length : Int) != L.length) = false := by simp
      have HOC := Lib.hid (fun (W : World) (hb : Below w6.heap.size w6 W) => L_15.out.same (SameIn.below hb (by omega)))
      have HRC := Lib.hid (fun (W : World) (hb : Below w6.heap.size w6 W) => Nw6.out.same (SameIn.below hb (by omega)))
      go_wp2
      go_loopw [15] (fun c wr => ∃ m : Nat, m ≤ L.length ∧ c = .int .i64 m ∧ Below w6.heap.size w6 wr) (fun c _ => L.length - (intOf c).toNat)
      case atStart => exact ⟨0, Nat.zero_le _, rfl, Below.refl _ _⟩
      case round =>
        obtain ⟨m, hm, rfl, hb⟩ := hrel
        have HB := Lib.hid hb
        have hszb := hb.size
        clear hb
        by_cases hlt : m < L.length
        · have hlt' : (m : Int) < L.length := by omega
          obtain ⟨b3, o3, c3, e3, _, _, _, g3⟩ := (HOC.out _ HB.out).open (by omega)
          obtain ⟨b4, o4, c4, e4, _, _, _, g4⟩ := (HRC.out _ HB.out).open (by omega)
          simp only [Value.slice.injEq] at e3 e4
          obtain ⟨h31, _, h33⟩ := e3
          obtain ⟨h41, _, h43⟩ := e4
          have q3 := g3 m hlt
          have q4 := g4 (L.length - 1 - m) (by omega)
          obtain ⟨d, ed⟩ : ∃ d, L.length - 1 - m = d := ⟨_, rfl⟩
          have hd : (L.length : Int) - 1 - m = d := by omega
          have hdL : (d : Int) < L.length := by omega
          rw [rev_at _ _ m hlt, ed] at q4
          obtain ⟨r1, r2⟩ := HNR.out m hlt
          obtain ⟨y, ey⟩ : ∃ y, nsZ L m = y := ⟨_, rfl⟩
          rw [ey] at q3 q4 r1 r2
          have hyy : (((n0 : Int) - 1 - y) != (n0 : Int) - 1 - y) = false := by simp
          have HX := Lib.hid (And.intro h31 (And.intro h33 (And.intro h41 h43)))
          clear g3 g4 h31 h33 h41 h43 ey ed
          rw [HX.out.1, HX.out.2.2.1]
          go_wp2
          go_quiet (fail)
          go_wp2
          go_roundw
          case rel => exact ⟨m + 1, by omega, by go_num, below_drewN HB.out _⟩
          case measure => simp [intOf]; omega
        · have hlt' : ¬ (m : Int) < L.length := by omega
          go_wp2_with (first | (at_builtin; have HLa := Lib.hid (nums_lit wr); have HBa := Lib.hid (HB.out.alloc hszb (.cells #[] 3)); have HNa := Lib.hid (cp_news (Z := z0) (n := n0) (fun q hq => HCC.out _ HBa.out q hq)); refine wpList_append_own _ rfl _ _ 23 rfl wr.heap.size 3 i0' (.int .i64 0) 1 8 Try.underlying23 hi00 hz00 hz10 hz20 rfl (by decide) _ 0 [] rfl HLa.out ⟨bP, oP, none⟩ n0 cp (nsV (fnL z0 n0)) rfl HLEN2.out HNa.out HW.out (by unfold maxLen; omega) (by omega) (by simp) ?_; intro va w8 howna hga _; have HOa := Lib.hid (cp_own howna HRNG.out); have HB8 := Lib.hid (HBa.out.grown hga HBa.out.size (fun k hk => by have h1 := (HLa.out.lt k hk).1; omega)); clear hga howna; obtain ⟨b2, capa, rfl, k5a, k6a, k7a⟩ := owI_block HOa.out (by omega); obtain ⟨c5a, f5a⟩ := owI_cellAt HOa.out hjn; rw [ezj.out] at c5a; have HPUT := Lib.hid (owI_put HOa.out hjn (zj - 1) (by omega)); have HB9 := Lib.hid (HB8.out.setCell (p := ⟨b2, j, none⟩) (show w6.heap.size ≤ b2 by omega) (.int .i64 (zj - 1))); have hs9 := set_size w8 ⟨b2, j, none⟩ (.int .i64 (zj - 1))))
          have HXZ := Lib.hid HPUT.out.rd
          have hszz := HB9.out.size
          by_cases hval : PrOk n0 (setZ z0 j (zj - 1))
          · refine (implHull_yes _ _ _ n0 (setZ z0 j (zj - 1)) _ HXZ.out (by rw [hs9]; omega) hval).mono ?_
            rintro e w10 ⟨_, rfl, ⟨_, _, _, rfl⟩, o10, b10⟩
            have HB10 := Lib.hid (HB9.out.trans (b10.mono hszz))
            have HR10 := Lib.hid o10.rd
            have hs10 := b10.size
            clear b10 o10
            have HH := Lib.hid (hasN_any _ _ _ L (j : Int) w10 (HOC.out _ HB10.out) (by omega))
            rw [HHAS.out] at HH
            by_cases hh : Hul n0 z0 j
            · have hb := huB_yes hh
              rw [hb] at HH
              clear hh
              go_wp2_with fail
              refine HH.out.mono ?_
              rintro e w11 ⟨rfl, b11⟩
              have HB11 := Lib.hid (HB10.out.trans (b11.mono HB10.out.size))
              clear b11
              go_wp2
              go_ret
              exact ⟨rfl, BL_18.out.trans (HB11.out.mono (by omega))⟩
            · have hb := huB_no hh
              have heq := HLOW.out hh (zj - 1) (by omega)
              rw [hb] at HH
              rw [heq] at HR10
              obtain ⟨_, _, e0⟩ := (HR10.out).shape
              simp only [Value.slice.injEq] at e0
              obtain ⟨rfl, e02, rfl⟩ := e0
              have HE02 := Lib.hid e02
              clear hh heq e02
              go_wp2_with fail
              refine HH.out.mono ?_
              rintro e w11 ⟨rfl, b11⟩
              have HB11 := Lib.hid (HB10.out.trans (b11.mono HB10.out.size))
              have HR11 := Lib.hid (HR10.out.same (SameIn.below b11 (Nat.le_refl _)))
              have HO11 := Lib.hid (HOC.out _ HB11.out)
              clear b11
              go_wp2_with fail
              refine (sameInts_any _ _ _ _ _ _ L.length _ _ _ HR11.out HO11.out (fun _ _ => rfl)).mono ?_
              intro e w12 hq
              obtain ⟨rfl, b12⟩ := hq.bl
              have HB12 := Lib.hid (HB11.out.trans (b12.mono HB11.out.size))
              clear hq b12
              go_wp2
              go_ret
              exact ⟨rfl, BL_18.out.trans (HB12.out.mono (by omega))⟩
          · refine (implHull_no _ _ _ n0 (setZ z0 j (zj - 1)) _ HXZ.out (by rw [hs9]; omega) hval).mono ?_
            rintro e w10 ⟨_, rfl, ⟨_, _, _, rfl⟩, o10, b10⟩
            have HB10 := Lib.hid (HB9.out.trans (b10.mono hszz))
            clear b10 o10
            have HH := Lib.hid (hasN_any _ _ _ L (j : Int) w10 (HOC.out _ HB10.out) (by omega))
            obtain ⟨hb, ehb⟩ : ∃ b, decide ((j : Int) ∈ L) = b := ⟨_, rfl⟩
            rw [ehb] at HH
            clear ehb
            go_wp2_with fail
            refine HH.out.mono ?_
            rintro e w11 ⟨rfl, b11⟩
            have HB11 := Lib.hid (HB10.out.trans (b11.mono HB10.out.size))
            clear b11
            cases hb with
            | true =>
              go_wp2
              go_ret
              exact ⟨rfl, BL_18.out.trans (HB11.out.mono (by omega))⟩
            | false =>
              go_wp2
              go_ret
              exact ⟨rfl, BL_18.out.trans (HB11.out.mono (by omega))⟩
end Go.Proofs.Ytgcebhmenffbjab
