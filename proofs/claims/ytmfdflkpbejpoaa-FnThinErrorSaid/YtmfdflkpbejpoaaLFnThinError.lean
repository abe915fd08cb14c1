/- The law FnThinError of the promises: its walk. -/
import Derived.Test.YtmfdflkpbejpoaaThRc
import Derived.Test.YtmfdflkpbejpoaaDrawX
namespace Go.Proofs.Ytmfdflkpbejpoaa
open Go.RowKit
set_option linter.unusedVariables false

set_option maxHeartbeats 4000000 in
set_option maxRecDepth 100000 in
theorem law_FnThinError (v : Value) (n : Nat) (w : World) (hv : RdB w.heap.size w v n) : Calls Try.prog 4 #[v] w (LawPost w) := by
  have HD := Lib.hid (draw_DrawThinError v n w.heap.size w hv (Nat.le_refl _))
  obtain ⟨ao, cap, cb, off, Z, rfl, hc1, hc2, _⟩ := hv
  by_cases hn : 1048576 < n
  · have hn' : (1048576 : Int) < n := by omega
    go_enter Try.func4, Try.ntmps4
    go_wp2
    go_ret
    exact ⟨rfl, Below.refl _ _⟩
  · have hn' : ¬ (1048576 : Int) < n := by omega
    go_enter Try.func4, Try.ntmps4
    go_wp2_with fail
    refine HD.out.mono ?_
    rintro e w1 ⟨vp, n0, z0, vu, m0, y0, rfl, hm, hmu, hn8, hm8, hzz, bw1⟩
    obtain ⟨ap, cp, rfl⟩ := hm.shape
    obtain ⟨au, cu, rfl⟩ := hmu.shape
    have R_p := Lib.hid hm
    have R_u := Lib.hid hmu
    have HZZ := Lib.hid hzz
    clear hm hmu hzz HD
    have sw1 : w.heap.size ≤ w1.heap.size := bw1.size
    have BL := Lib.hid bw1
    clear bw1
    obtain ⟨i0, hi0, hz0, hz1, hz2⟩ := info_parts Try.infoI
    by_cases hok : ThOk n0 z0 m0 y0
    case neg =>
      have HTH := Lib.hid (thE_no hok)
      clear hok
      go_wp2_with fail
      refine (implThinErr_i _ _ 0 w1.heap.size 0 w1.heap.size n0 m0 z0 y0 _ _ (R_p.out.mono (Nat.zero_le _) (by omega)) (R_u.out.mono (Nat.zero_le _) (by omega)) (Nat.le_refl _) (Nat.le_refl _) (by omega) HTH.out).mono ?_
      rintro e w2 ⟨rfl, bw2⟩
      have sw2 : w1.heap.size ≤ w2.heap.size := bw2.size
      have L_1 := Lib.hid (R_p.out.same (SameIn.below bw2 (by omega)))
      clear R_p
      have L_2 := Lib.hid (R_u.out.same (SameIn.below bw2 (by omega)))
      clear R_u
      have BL_3 := Lib.hid (BL.out.trans (bw2.mono (by omega)))
      clear BL bw2
      go_wp2_with fail
      refine (specThinErr_i _ _ 0 w2.heap.size 0 w2.heap.size n0 m0 z0 y0 _ _ (L_1.out.mono (Nat.zero_le _) (by omega)) (L_2.out.mono (Nat.zero_le _) (by omega)) (Nat.le_refl _) (Nat.le_refl _) (by omega) (by omega) HTH.out).mono ?_
      rintro e w3 ⟨rfl, bw3⟩
      have sw3 : w2.heap.size ≤ w3.heap.size := bw3.size
      have L_4 := Lib.hid (L_1.out.same (SameIn.below bw3 (by omega)))
      clear L_1
      have L_5 := Lib.hid (L_2.out.same (SameIn.below bw3 (by omega)))
      clear L_2
      have BL_6 := Lib.hid (BL_3.out.trans (bw3.mono (by omega)))
      clear BL_3 bw3
      go_wp2
      go_ret
      exact ⟨rfl, BL_6.out⟩
    case pos =>
      have hn1 := hok.1.1.1
      have hm1 := hok.2.1
      obtain ⟨E, eE⟩ : ∃ E, thE n0 z0 m0 y0 = E := ⟨_, rfl⟩
      have hE0 : 0 ≤ E := by rw [← eE, thE_yes hok]; exact erL_nonneg _ _ _
      have hE9 : E ≤ 99 := by rw [← eE, thE_yes hok]; exact erL_top hok _ (by omega)
      have HKE := Lib.hid (thK_yes ⟨hok, ⟨hE0, hE9⟩, by omega⟩ : thK n0 z0 m0 y0 E = true)
      have HKN := Lib.hid (thK_no (fun h => by have := h.2.2; omega) : thK n0 z0 m0 y0 (E - 1) = false)
      have HEE := Lib.hid eE
      have HTE := Lib.hid ((tn_err hok).trans eE)
      have HNO := Lib.hid (tn_nsok hok)
      have HRG := Lib.hid (fun i (hi : i < m0) => hok.range i hi)
      have HPO := Lib.hid hok.1
      have hEE : (E != E) = false := by simp
      have hEQ : (E == E) = true := by simp
      have hn1' : (1 : Int) ≤ n0 := by omega
      clear hok eE
      go_wp2_with fail
      refine (implThinErr_i _ _ 0 w1.heap.size 0 w1.heap.size n0 m0 z0 y0 E _ (R_p.out.mono (Nat.zero_le _) (by omega)) (R_u.out.mono (Nat.zero_le _) (by omega)) (Nat.le_refl _) (Nat.le_refl _) (by omega) HEE.out).mono ?_
      rintro e w2 ⟨rfl, bw2⟩
      have sw2 : w1.heap.size ≤ w2.heap.size := bw2.size
      have L_1 := Lib.hid (R_p.out.same (SameIn.below bw2 (by omega)))
      clear R_p
      have L_2 := Lib.hid (R_u.out.same (SameIn.below bw2 (by omega)))
      clear R_u
      have BL_3 := Lib.hid (BL.out.trans (bw2.mono (by omega)))
      clear BL bw2
      go_wp2_with fail
      refine (specThinErr_i _ _ 0 w2.heap.size 0 w2.heap.size n0 m0 z0 y0 E _ (L_1.out.mono (Nat.zero_le _) (by omega)) (L_2.out.mono (Nat.zero_le _) (by omega)) (Nat.le_refl _) (Nat.le_refl _) (by omega) (by omega) HEE.out).mono ?_
      rintro e w3 ⟨rfl, bw3⟩
      have sw3 : w2.heap.size ≤ w3.heap.size := bw3.size
      have L_4 := Lib.hid (L_1.out.same (SameIn.below bw3 (by omega)))
      clear L_1
      have L_5 := Lib.hid (L_2.out.same (SameIn.below bw3 (by omega)))
      clear L_2
      have BL_6 := Lib.hid (BL_3.out.trans (bw3.mono (by omega)))
      clear BL_3 bw3
      go_wp2_with fail
      refine (implBack_yes _ 0 w3.heap.size n0 z0 _ (L_4.out.mono (Nat.zero_le _) (by omega)) (Nat.le_refl _) HPO.out).mono ?_
      rintro e w4 ⟨_, rfl, ⟨_, _, _, rfl⟩, ow4, bw4⟩
      have Nw4 := Lib.hid (ow4.rd)
      clear ow4
      have sw4 : w3.heap.size ≤ w4.heap.size := bw4.size
      have L_7 := Lib.hid (L_4.out.same (SameIn.below bw4 (by omega)))
      clear L_4
      have L_8 := Lib.hid (L_5.out.same (SameIn.below bw4 (by omega)))
      clear L_5
      have BL_9 := Lib.hid (BL_6.out.trans (bw4.mono (by omega)))
      clear BL_6 bw4
      have HRP := Lib.hid (fun (W : World) (hb : Below w4.heap.size w4 W) => (L_7.out.same (SameIn.below hb (by omega))).mono (Nat.zero_le _) (by have := hb.size; omega : _ ≤ W.heap.size))
      have HRU := Lib.hid (fun (W : World) (hb : Below w4.heap.size w4 W) => (L_8.out.same (SameIn.below hb (by omega))).mono (Nat.zero_le _) (by have := hb.size; omega : _ ≤ W.heap.size))
      have HRR := Lib.hid (fun (W : World) (hb : Below w4.heap.size w4 W) => (Nw4.out.same (SameIn.below hb (by omega))).mono (Nat.zero_le _) (by have := hb.size; omega : _ ≤ W.heap.size))
      obtain ⟨bu, ou, cu', eu, _, _, _, gu⟩ := L_8.out.open (by omega)
      simp only [Value.slice.injEq] at eu
      obtain ⟨h21, _, h23⟩ := eu
      subst h21 h23
      have HGU := Lib.hid (fun (W : World) (hb : Below w4.heap.size w4 W) (i : Nat) (hi : i < m0) => show W.cell? ⟨bu, ou + i, none⟩ = some (.int .i64 (y0 i)) from by
        obtain ⟨_, _, _, e, _, _, _, g⟩ := (L_8.out.same (SameIn.below hb (by omega))).open (by omega)
        simp only [Value.slice.injEq, Option.some.injEq, Addr.mk.injEq] at e
        obtain ⟨⟨rfl, rfl, _⟩, _, _⟩ := e
        exact g i hi)
      clear gu
      have HL0 := Lib.hid (nums_lit w4)
      have HB0 := Lib.hid ((Below.refl w4.heap.size w4).alloc (Nat.le_refl _) (.cells #[] 3))
      go_wp2
      go_loopw [9, 10] (fun x c wr => ∃ k d : Nat, k + d = m0 ∧ c = .int .i64 ((d : Int) - 1) ∧ Nums w4.heap.size wr x (fnL (tnF n0 m0 y0) k) ∧ Below w4.heap.size w4 wr) (fun _ c _ => (intOf c + 1).toNat)
      case atStart => exact ⟨0, m0, by omega, rfl, HL0.out, HB0.out⟩
      case round =>
        obtain ⟨k, d, hk, rfl, hli, hb⟩ := hrel
        have HB := Lib.hid hb
        have hszb := hb.size
        clear hb
        by_cases hd0 : d = 0
        case neg =>
          obtain ⟨d', rfl⟩ : ∃ d', d = d' + 1 := ⟨d - 1, by omega⟩
          have hd1 : ((d' + 1 : Nat) : Int) - 1 = (d' : Int) := by omega
          rw [hd1]
          have hdm : (d' : Int) < m0 := by omega
          have hd9 : (0 : Int) ≤ d' := by omega
          obtain ⟨L, eL⟩ : ∃ L, fnL (tnF n0 m0 y0) k = L := ⟨_, rfl⟩
          have hln : L.length = k := by rw [← eL, fnL_len]
          have hr := HRG.out d' (by omega)
          have q1 := HGU.out _ HB.out d' (by omega)
          obtain ⟨yv, ey⟩ : ∃ x, y0 d' = x := ⟨_, rfl⟩
          have HSU := Lib.hid (show L ++ [(n0 : Int) - 1 - yv] = fnL (tnF n0 m0 y0) (k + 1) from by
            have h8 : fnL (tnF n0 m0 y0) (k + 1) = fnL (tnF n0 m0 y0) k ++ [tnF n0 m0 y0 k] := rfl
            rw [h8, eL, tnF, show m0 - 1 - k = d' by omega, ey])
          rw [ey] at q1 hr
          obtain ⟨hr1, hr2⟩ := hr
          rw [eL] at hli
          have HLI := Lib.hid hli
          clear hli eL ey hd0 hd1
          go_wp2_with (first | (at_builtin; refine wpList_append_own _ rfl _ _ 23 rfl w4.heap.size 3 i0 (.int .i64 0) 1 8 Try.underlying23 hi0 hz0 hz1 hz2 rfl (by decide) _ L.length (nsV L) rfl (HLI.out.alloc _) ⟨wr.heap.size, 0, none⟩ 1 1 [.int .i64 ((n0 : Int) - 1 - yv)] rfl rfl (World.news_of_block (cs := #[.int .i64 ((n0 : Int) - 1 - yv)]) (t := 3) (fr := (0, 0)) (heap_alloc_new wr _)) (by simp [Value.oneCell']) (by unfold maxLen; omega) (by omega) (by simp; omega) ?_; intro v' w6 hown6 hg6 _))
          have HB6 := Lib.hid (((Below.refl w4.heap.size wr).alloc (by have := HB.out.size; omega) (.cells #[.int .i64 ((n0 : Int) - 1 - yv)] 3)).grown hg6 (by simp; have := HB.out.size; omega) (fun k hk => (HLI.out.lt k hk).1))
          have HL6 := Lib.hid (nums_push (L := L) (x := (n0 : Int) - 1 - yv) hown6)
          rw [HSU.out] at HL6
          clear hown6 hg6
          have HC6 := Lib.hid (HB.out.trans (HB6.out.mono (Nat.le_refl _)))
          go_wp2
          go_roundw
          case rel => exact ⟨k + 1, d', by omega, by go_num, HL6.out, HC6.out⟩
          case measure => simp [intOf]
        case pos =>
          subst hd0
          obtain rfl : k = m0 := by omega
          have hlt' : ¬ (0 : Int) ≤ ((0 : Nat) : Int) - 1 := by omega
          have hrx := hli.rdI HNO.out
          rw [fnL_len] at hrx
          obtain ⟨xa, xc, rfl⟩ := hrx.shape
          have RXW := Lib.hid (hrx.mono (Nat.zero_le _) (Nat.le_refl _))
          have RPW := Lib.hid (HRP.out _ HB.out)
          have RUW := Lib.hid (HRU.out _ HB.out)
          have RRW := Lib.hid (HRR.out _ HB.out)
          have BLW := Lib.hid (BL_9.out.trans (HB.out.mono (by omega)))
          clear hli hrx
          go_wp2_with fail
          refine (implThinKps_b _ _ 0 wr.heap.size 0 wr.heap.size n0 k z0 y0 E true _ (RPW.out.mono (Nat.zero_le _) (by omega)) (RUW.out.mono (Nat.zero_le _) (by omega)) (Nat.le_refl _) (Nat.le_refl _) (by omega) HKE.out).mono ?_
          rintro e w5 ⟨rfl, bw5⟩
          have sw5 : wr.heap.size ≤ w5.heap.size := bw5.size
          have L_10 := Lib.hid (RPW.out.same (SameIn.below bw5 (by omega)))
          clear RPW
          have L_11 := Lib.hid (RXW.out.same (SameIn.below bw5 (by omega)))
          clear RXW
          have L_12 := Lib.hid (RUW.out.same (SameIn.below bw5 (by omega)))
          clear RUW
          have L_13 := Lib.hid (RRW.out.same (SameIn.below bw5 (by omega)))
          clear RRW
          have BL_14 := Lib.hid (BLW.out.trans (bw5.mono (by omega)))
          clear BLW bw5
          go_wp2_with fail
          refine (implThinKps_b _ _ 0 w5.heap.size 0 w5.heap.size n0 k z0 y0 (E - 1) false _ (L_10.out.mono (Nat.zero_le _) (by omega)) (L_12.out.mono (Nat.zero_le _) (by omega)) (Nat.le_refl _) (Nat.le_refl _) (by omega) HKN.out).mono ?_
          rintro e w6 ⟨rfl, bw6⟩
          have sw6 : w5.heap.size ≤ w6.heap.size := bw6.size
          have L_15 := Lib.hid (L_10.out.same (SameIn.below bw6 (by omega)))
          clear L_10
          have L_16 := Lib.hid (L_11.out.same (SameIn.below bw6 (by omega)))
          clear L_11
          have L_17 := Lib.hid (L_12.out.same (SameIn.below bw6 (by omega)))
          clear L_12
          have L_18 := Lib.hid (L_13.out.same (SameIn.below bw6 (by omega)))
          clear L_13
          have BL_19 := Lib.hid (BL_14.out.trans (bw6.mono (by omega)))
          clear BL_14 bw6
          go_wp2_with fail
          refine (implThinErr_i _ _ 0 w6.heap.size 0 w6.heap.size n0 k (revZ (n0 - 1) z0) (tnY n0 k y0) E _ (L_18.out.mono (Nat.zero_le _) (by omega)) (L_16.out.mono (Nat.zero_le _) (by omega)) (Nat.le_refl _) (Nat.le_refl _) (by omega) HTE.out).mono ?_
          rintro e w7 ⟨rfl, bw7⟩
          have sw7 : w6.heap.size ≤ w7.heap.size := bw7.size
          have L_20 := Lib.hid (L_15.out.same (SameIn.below bw7 (by omega)))
          clear L_15
          have L_21 := Lib.hid (L_16.out.same (SameIn.below bw7 (by omega)))
          clear L_16
          have L_22 := Lib.hid (L_17.out.same (SameIn.below bw7 (by omega)))
          clear L_17
          have L_23 := Lib.hid (L_18.out.same (SameIn.below bw7 (by omega)))
          clear L_18
          have BL_24 := Lib.hid (BL_19.out.trans (bw7.mono (by omega)))
          clear BL_19 bw7
          go_wp2
          go_ret
          exact ⟨rfl, BL_24.out⟩
end Go.Proofs.Ytmfdflkpbejpoaa
