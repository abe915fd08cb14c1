/- The law FnThinValid of the promises: its walk. -/
import Derived.Test.YtmfdflkpbejpoaaThR
import Derived.Test.YtmfdflkpbejpoaaDrawX
namespace Go.Proofs.Ytmfdflkpbejpoaa
open Go.RowKit
set_option linter.unusedVariables false

set_option maxHeartbeats 4000000 in
set_option maxRecDepth 100000 in
theorem law_FnThinValid (v : Value) (n : Nat) (w : World) (hv : RdB w.heap.size w v n) : Calls Try.prog 3 #[v] w (LawPost w) := by
  have HD := Lib.hid (draw_DrawThinValid v n w.heap.size w hv (Nat.le_refl _))
  obtain ⟨ao, cap, cb, off, Z, rfl, hc1, hc2, _⟩ := hv
  by_cases hn : 1048576 < n
  · have hn' : (1048576 : Int) < n := by omega
    go_enter Try.func3, Try.ntmps3
    go_wp2
    go_ret
    exact ⟨rfl, Below.refl _ _⟩
  · have hn' : ¬ (1048576 : Int) < n := by omega
    go_enter Try.func3, Try.ntmps3
    go_wp2_with fail
    refine HD.out.mono ?_
    rintro e w1 ⟨vp, n0, z0, vu, m0, y0, rfl, hm, hmu, hn8, hm8, hzz, bw1⟩
    obtain ⟨ap, cp, rfl⟩ := hm.shape
    obtain ⟨au, cu, rfl⟩ := hmu.shape
    have R_p := Lib.hid hm
    have R_u := Lib.hid hmu
    have HZZ := Lib.hid hzz
    clear hm hmu hzz HD
    have sw1 : w.heap.size ≤ w1.heap.size := bw1.size
    have BL := Lib.hid bw1
    clear bw1
    obtain ⟨i0, hi0, hz0, hz1, hz2⟩ := info_parts Try.infoI
    by_cases hok : ThOk n0 z0 m0 y0
    case neg =>
      have HTH := Lib.hid (thB_no hok)
      clear hok
      go_wp2_with fail
      refine (implThin_b _ _ 0 w1.heap.size 0 w1.heap.size n0 m0 z0 y0 false _ (R_p.out.mono (Nat.zero_le _) (by omega)) (R_u.out.mono (Nat.zero_le _) (by omega)) (Nat.le_refl _) (by omega) HTH.out).mono ?_
      rintro e w2 ⟨rfl, bw2⟩
      have sw2 : w1.heap.size ≤ w2.heap.size := bw2.size
      have L_1 := Lib.hid (R_p.out.same (SameIn.below bw2 (by omega)))
      clear R_p
      have L_2 := Lib.hid (R_u.out.same (SameIn.below bw2 (by omega)))
      clear R_u
      have BL_3 := Lib.hid (BL.out.trans (bw2.mono (by omega)))
      clear BL bw2
      go_wp2_with fail
      refine (specThin_b _ _ 0 w2.heap.size 0 w2.heap.size n0 m0 z0 y0 false _ (L_1.out.mono (Nat.zero_le _) (by omega)) (L_2.out.mono (Nat.zero_le _) (by omega)) (by omega) (by omega) HTH.out).mono ?_
      rintro e w3 ⟨rfl, bw3⟩
      have sw3 : w2.heap.size ≤ w3.heap.size := bw3.size
      have L_4 := Lib.hid (L_1.out.same (SameIn.below bw3 (by omega)))
      clear L_1
      have L_5 := Lib.hid (L_2.out.same (SameIn.below bw3 (by omega)))
      clear L_2
      have BL_6 := Lib.hid (BL_3.out.trans (bw3.mono (by omega)))
      clear BL_3 bw3
      go_wp2
      go_ret
      exact ⟨rfl, BL_6.out⟩
    case pos =>
      have hn1 := hok.1.1.1
      have HTH := Lib.hid (thB_yes hok)
      have HAL := Lib.hid (thB_yes (all_ok hok.1))
      have HAE := Lib.hid (show thE n0 z0 n0 (nsZ (rgL n0)) = 0 by rw [thE_yes (all_ok hok.1), all_err n0 z0 (n0 - 1) (by omega)])
      have HE2 := Lib.hid (fun (h : n0 ≠ 1) => thB_yes (ends_two hok.1 h))
      have HE1 := Lib.hid (fun (h : n0 = 1) => thB_yes (ends_one hok.1 h))
      obtain ⟨E, eE⟩ : ∃ E, thE n0 z0 m0 y0 = E := ⟨_, rfl⟩
      have hE0 : 0 ≤ E := by rw [← eE, thE_yes hok]; exact erL_nonneg _ _ _
      have hE9 : E ≤ 99 := by have := hok.2.1; rw [← eE, thE_yes hok]; exact erL_top hok _ (by omega)
      have HKE := Lib.hid (thK_yes ⟨hok, ⟨hE0, hE9⟩, by omega⟩ : thK n0 z0 m0 y0 E = true)
      have HEE := Lib.hid eE
      have hn1' : (1 : Int) ≤ n0 := by omega
      clear hok eE
      go_wp2_with fail
      refine (implThin_b _ _ 0 w1.heap.size 0 w1.heap.size n0 m0 z0 y0 true _ (R_p.out.mono (Nat.zero_le _) (by omega)) (R_u.out.mono (Nat.zero_le _) (by omega)) (Nat.le_refl _) (by omega) HTH.out).mono ?_
      rintro e w2 ⟨rfl, bw2⟩
      have sw2 : w1.heap.size ≤ w2.heap.size := bw2.size
      have L_1 := Lib.hid (R_p.out.same (SameIn.below bw2 (by omega)))
      clear R_p
      have L_2 := Lib.hid (R_u.out.same (SameIn.below bw2 (by omega)))
      clear R_u
      have BL_3 := Lib.hid (BL.out.trans (bw2.mono (by omega)))
      clear BL bw2
      go_wp2_with fail
      refine (specThin_b _ _ 0 w2.heap.size 0 w2.heap.size n0 m0 z0 y0 true _ (L_1.out.mono (Nat.zero_le _) (by omega)) (L_2.out.mono (Nat.zero_le _) (by omega)) (by omega) (by omega) HTH.out).mono ?_
      rintro e w3 ⟨rfl, bw3⟩
      have sw3 : w2.heap.size ≤ w3.heap.size := bw3.size
      have L_4 := Lib.hid (L_1.out.same (SameIn.below bw3 (by omega)))
      clear L_1
      have L_5 := Lib.hid (L_2.out.same (SameIn.below bw3 (by omega)))
      clear L_2
      have BL_6 := Lib.hid (BL_3.out.trans (bw3.mono (by omega)))
      clear BL_3 bw3
      have HRP := Lib.hid (fun (W : World) (hb : Below w3.heap.size w3 W) => (L_4.out.same (SameIn.below hb (by omega))).mono (Nat.zero_le _) (by have := hb.size; omega : _ ≤ W.heap.size))
      have HRU := Lib.hid (fun (W : World) (hb : Below w3.heap.size w3 W) => (L_5.out.same (SameIn.below hb (by omega))).mono (Nat.zero_le _) (by have := hb.size; omega : _ ≤ W.heap.size))
      have HL0 := Lib.hid (nums_lit w3)
      have HB0 := Lib.hid ((Below.refl w3.heap.size w3).alloc (Nat.le_refl _) (.cells #[] 3))
      go_wp2
      go_loopw [7, 8] (fun x c wr => ∃ k : Nat, k ≤ n0 ∧ c = .int .i64 k ∧ Nums w3.heap.size wr x (rgL k) ∧ Below w3.heap.size w3 wr) (fun _ c _ => n0 - (intOf c).toNat)
      case atStart => exact ⟨0, Nat.zero_le _, rfl, HL0.out, HB0.out⟩
      case round =>
        obtain ⟨k, hk, rfl, hli, hb⟩ := hrel
        have HB := Lib.hid hb
        have hszb := hb.size
        clear hb
        by_cases hlt : k < n0
        · have hlt' : (k : Int) < n0 := by omega
          obtain ⟨L, eL⟩ : ∃ L, rgL k = L := ⟨_, rfl⟩
          have hln : L.length = k := by rw [← eL, rgL_len]
          have HSU := Lib.hid (rgL_succ k)
          rw [eL] at HSU hli
          have HLI := Lib.hid hli
          clear hli eL
          go_wp2_with (first | (at_builtin; refine wpList_append_own _ rfl _ _ 23 rfl w3.heap.size 3 i0 (.int .i64 0) 1 8 Try.underlying23 hi0 hz0 hz1 hz2 rfl (by decide) _ L.length (nsV L) rfl (HLI.out.alloc _) ⟨wr.heap.size, 0, none⟩ 1 1 [.int .i64 k] rfl rfl (World.news_of_block (cs := #[.int .i64 k]) (t := 3) (fr := (0, 0)) (heap_alloc_new wr _)) (by simp [Value.oneCell']) (by unfold maxLen; omega) (by omega) (by simp; omega) ?_; intro v' w6 hown6 hg6 _))
          have HB6 := Lib.hid (((Below.refl w3.heap.size wr).alloc (by have := HB.out.size; omega) (.cells #[.int .i64 k] 3)).grown hg6 (by simp; have := HB.out.size; omega) (fun k hk => (HLI.out.lt k hk).1))
          have HL6 := Lib.hid (nums_push (L := L) (x := k) hown6)
          rw [HSU.out] at HL6
          clear hown6 hg6
          have HC6 := Lib.hid (HB.out.trans (HB6.out.mono (Nat.le_refl _)))
          go_wp2
          go_roundw
          case rel => exact ⟨k + 1, by omega, by go_num, HL6.out, HC6.out⟩
          case measure => simp [intOf]; omega
        · obtain rfl : k = n0 := by omega
          have hlt' : ¬ (k : Int) < k := by omega
          have hrx := hli.rdI (rgL_ok k (by omega))
          rw [rgL_len] at hrx
          obtain ⟨xa, xc, rfl⟩ := hrx.shape
          have HRX := Lib.hid (fun (W : World) (hb : Below wr.heap.size wr W) => (hrx.same (SameIn.below hb (Nat.le_refl _))).mono (Nat.zero_le _) hb.size)
          clear hli hrx
          by_cases h1 : k = 1
          · have hb1 : ((k : Int) == 1) = true := by rw [beq_iff_eq]; omega
            have HT1 := Lib.hid (HE1.out h1)
            clear h1
  
            have hb2 : Below wr.heap.size wr (wr.alloc (.cells #[.int .i64 0, .int .i64 ((k : Int) - 1)] 3)) := (Below.refl _ _).alloc (Nat.le_refl _) _
            have hsz2 : (wr.alloc (.cells #[.int .i64 0, .int .i64 ((k : Int) - 1)] 3)).heap.size = wr.heap.size + 1 := by simp
            have hbW : Below wr.heap.size wr ((wr.alloc (.cells #[.int .i64 0, .int .i64 ((k : Int) - 1)] 3)).alloc (.cells #[.int .i64 0] 3)) := hb2.alloc (by omega) _
            have hEN : Nums wr.heap.size ((wr.alloc (.cells #[.int .i64 0, .int .i64 ((k : Int) - 1)] 3)).alloc (.cells #[.int .i64 0] 3)) (.slice (some ⟨wr.heap.size + 1, 0, none⟩) 1 1) [0] := by
              have h := World.ownsRow_lit (base := wr.heap.size) (e := 3) (size := 1) (wr.alloc (.cells #[.int .i64 0, .int .i64 ((k : Int) - 1)] 3)) #[.int .i64 0] 1 (by omega) (by decide) (by simp)
              rw [hsz2] at h
              exact h
            clear hb2 hsz2
            have RPW := Lib.hid (HRP.out _ (HB.out.trans (hbW.mono hszb)))
            have RUW := Lib.hid (HRU.out _ (HB.out.trans (hbW.mono hszb)))
            have RXW := Lib.hid (HRX.out _ hbW)
            have REW := Lib.hid ((hEN.rdI (fun x hx => by simp at hx; omega)).mono (Nat.zero_le _) (Nat.le_refl _))
            have BLW := Lib.hid (BL_6.out.trans ((HB.out.trans (hbW.mono hszb)).mono (by omega)))
            have hsW := hbW.size
            clear hbW hEN
            go_wp2_with fail
            obtain ⟨W, eW⟩ : ∃ W, (wr.alloc (.cells #[.int .i64 0, .int .i64 ((k : Int) - 1)] 3)).alloc (.cells #[.int .i64 0] 3) = W := ⟨_, rfl⟩
            rw [eW] at RPW RUW RXW REW BLW hsW ⊢
            clear eW
            refine (implThinErr_i _ _ 0 W.heap.size 0 W.heap.size k k z0 _ 0 _ (RPW.out.mono (Nat.zero_le _) (by omega)) (RXW.out.mono (Nat.zero_le _) (by omega)) (Nat.le_refl _) (Nat.le_refl _) (by omega) HAE.out).mono ?_
            rintro e w4 ⟨rfl, bw4⟩
            have sw4 : W.heap.size ≤ w4.heap.size := bw4.size
            have L_7 := Lib.hid (RPW.out.same (SameIn.below bw4 (by omega)))
            clear RPW
            have L_8 := Lib.hid (RXW.out.same (SameIn.below bw4 (by omega)))
            clear RXW
            have L_9 := Lib.hid (RUW.out.same (SameIn.below bw4 (by omega)))
            clear RUW
            have L_10 := Lib.hid (REW.out.same (SameIn.below bw4 (by omega)))
            clear REW
            have BL_11 := Lib.hid (BLW.out.trans (bw4.mono (by omega)))
            clear BLW bw4
            go_wp2_with fail
            refine (implThin_b _ _ 0 w4.heap.size 0 w4.heap.size k 1 z0 _ true _ (L_7.out.mono (Nat.zero_le _) (by omega)) (L_10.out.mono (Nat.zero_le _) (by omega)) (Nat.le_refl _) (by omega) HT1.out).mono ?_
            rintro e w5 ⟨rfl, bw5⟩
            have sw5 : w4.heap.size ≤ w5.heap.size := bw5.size
            have L_12 := Lib.hid (L_7.out.same (SameIn.below bw5 (by omega)))
            clear L_7
            have L_13 := Lib.hid (L_8.out.same (SameIn.below bw5 (by omega)))
            clear L_8
            have L_14 := Lib.hid (L_9.out.same (SameIn.below bw5 (by omega)))
            clear L_9
            have L_15 := Lib.hid (L_10.out.same (SameIn.below bw5 (by omega)))
            clear L_10
            have BL_16 := Lib.hid (BL_11.out.trans (bw5.mono (by omega)))
            clear BL_11 bw5
            go_wp2_with fail
            refine (implThinErr_i _ _ 0 w5.heap.size 0 w5.heap.size k m0 z0 y0 E _ (L_12.out.mono (Nat.zero_le _) (by omega)) (L_14.out.mono (Nat.zero_le _) (by omega)) (Nat.le_refl _) (Nat.le_refl _) (by omega) HEE.out).mono ?_
            rintro e w6 ⟨rfl, bw6⟩
            have sw6 : w5.heap.size ≤ w6.heap.size := bw6.size
            have L_17 := Lib.hid (L_12.out.same (SameIn.below bw6 (by omega)))
            clear L_12
            have L_18 := Lib.hid (L_13.out.same (SameIn.below bw6 (by omega)))
            clear L_13
            have L_19 := Lib.hid (L_14.out.same (SameIn.below bw6 (by omega)))
            clear L_14
            have L_20 := Lib.hid (L_15.out.same (SameIn.below bw6 (by omega)))
            clear L_15
            have BL_21 := Lib.hid (BL_16.out.trans (bw6.mono (by omega)))
            clear BL_16 bw6
            go_wp2_with fail
            refine (implThinKps_b _ _ 0 w6.heap.size 0 w6.heap.size k m0 z0 y0 E true _ (L_17.out.mono (Nat.zero_le _) (by omega)) (L_19.out.mono (Nat.zero_le _) (by omega)) (Nat.le_refl _) (Nat.le_refl _) (by omega) HKE.out).mono ?_
            rintro e w7 ⟨rfl, bw7⟩
            have sw7 : w6.heap.size ≤ w7.heap.size := bw7.size
            have L_22 := Lib.hid (L_17.out.same (SameIn.below bw7 (by omega)))
            clear L_17
            have L_23 := Lib.hid (L_18.out.same (SameIn.below bw7 (by omega)))
            clear L_18
            have L_24 := Lib.hid (L_19.out.same (SameIn.below bw7 (by omega)))
            clear L_19
            have L_25 := Lib.hid (L_20.out.same (SameIn.below bw7 (by omega)))
            clear L_20
            have BL_26 := Lib.hid (BL_21.out.trans (bw7.mono (by omega)))
            clear BL_21 bw7
            go_wp2
            go_ret
            exact ⟨rfl, BL_26.out⟩
          · have hb1 : ((k : Int) == 1) = false := by rw [beq_eq_false_iff_ne]; omega
            have HT2 := Lib.hid (HE2.out h1)
            clear h1
            have hbW : Below wr.heap.size wr (wr.alloc (.cells #[.int .i64 0, .int .i64 ((k : Int) - 1)] 3)) := (Below.refl _ _).alloc (Nat.le_refl _) _
            have hEN : Nums wr.heap.size (wr.alloc (.cells #[.int .i64 0, .int .i64 ((k : Int) - 1)] 3)) (.slice (some ⟨wr.heap.size, 0, none⟩) 2 2) [0, (k : Int) - 1] := World.ownsRow_lit (base := wr.heap.size) (e := 3) (size := 1) wr #[.int .i64 0, .int .i64 ((k : Int) - 1)] 2 (Nat.le_refl _) (by decide) (by simp)
            have RPW := Lib.hid (HRP.out _ (HB.out.trans (hbW.mono hszb)))
            have RUW := Lib.hid (HRU.out _ (HB.out.trans (hbW.mono hszb)))
            have RXW := Lib.hid (HRX.out _ hbW)
            have REW := Lib.hid ((hEN.rdI (fun x hx => by simp at hx; omega)).mono (Nat.zero_le _) (Nat.le_refl _))
            have BLW := Lib.hid (BL_6.out.trans ((HB.out.trans (hbW.mono hszb)).mono (by omega)))
            have hsW := hbW.size
            clear hbW hEN
            go_wp2_with fail
            obtain ⟨W, eW⟩ : ∃ W, wr.alloc (.cells #[.int .i64 0, .int .i64 ((k : Int) - 1)] 3) = W := ⟨_, rfl⟩
            rw [eW] at RPW RUW RXW REW BLW hsW ⊢
            clear eW
            refine (implThinErr_i _ _ 0 W.heap.size 0 W.heap.size k k z0 _ 0 _ (RPW.out.mono (Nat.zero_le _) (by omega)) (RXW.out.mono (Nat.zero_le _) (by omega)) (Nat.le_refl _) (Nat.le_refl _) (by omega) HAE.out).mono ?_
            rintro e w8 ⟨rfl, bw8⟩
            have sw8 : W.heap.size ≤ w8.heap.size := bw8.size
            have L_27 := Lib.hid (RPW.out.same (SameIn.below bw8 (by omega)))
            clear RPW
            have L_28 := Lib.hid (RXW.out.same (SameIn.below bw8 (by omega)))
            clear RXW
            have L_29 := Lib.hid (RUW.out.same (SameIn.below bw8 (by omega)))
            clear RUW
            have L_30 := Lib.hid (REW.out.same (SameIn.below bw8 (by omega)))
            clear REW
            have BL_31 := Lib.hid (BLW.out.trans (bw8.mono (by omega)))
            clear BLW bw8
            go_wp2_with fail
            refine (implThin_b _ _ 0 w8.heap.size 0 w8.heap.size k 2 z0 _ true _ (L_27.out.mono (Nat.zero_le _) (by omega)) (L_30.out.mono (Nat.zero_le _) (by omega)) (Nat.le_refl _) (by omega) HT2.out).mono ?_
            rintro e w9 ⟨rfl, bw9⟩
            have sw9 : w8.heap.size ≤ w9.heap.size := bw9.size
            have L_32 := Lib.hid (L_27.out.same (SameIn.below bw9 (by omega)))
            clear L_27
            have L_33 := Lib.hid (L_28.out.same (SameIn.below bw9 (by omega)))
            clear L_28
            have L_34 := Lib.hid (L_29.out.same (SameIn.below bw9 (by omega)))
            clear L_29
            have L_35 := Lib.hid (L_30.out.same (SameIn.below bw9 (by omega)))
            clear L_30
            have BL_36 := Lib.hid (BL_31.out.trans (bw9.mono (by omega)))
            clear BL_31 bw9
            go_wp2_with fail
            refine (implThinErr_i _ _ 0 w9.heap.size 0 w9.heap.size k m0 z0 y0 E _ (L_32.out.mono (Nat.zero_le _) (by omega)) (L_34.out.mono (Nat.zero_le _) (by omega)) (Nat.le_refl _) (Nat.le_refl _) (by omega) HEE.out).mono ?_
            rintro e w10 ⟨rfl, bw10⟩
            have sw10 : w9.heap.size ≤ w10.heap.size := bw10.size
            have L_37 := Lib.hid (L_32.out.same (SameIn.below bw10 (by omega)))
            clear L_32
            have L_38 := Lib.hid (L_33.out.same (SameIn.below bw10 (by omega)))
            clear L_33
            have L_39 := Lib.hid (L_34.out.same (SameIn.below bw10 (by omega)))
            clear L_34
            have L_40 := Lib.hid (L_35.out.same (SameIn.below bw10 (by omega)))
            clear L_35
            have BL_41 := Lib.hid (BL_36.out.trans (bw10.mono (by omega)))
            clear BL_36 bw10
            go_wp2_with fail
            refine (implThinKps_b _ _ 0 w10.heap.size 0 w10.heap.size k m0 z0 y0 E true _ (L_37.out.mono (Nat.zero_le _) (by omega)) (L_39.out.mono (Nat.zero_le _) (by omega)) (Nat.le_refl _) (Nat.le_refl _) (by omega) HKE.out).mono ?_
            rintro e w11 ⟨rfl, bw11⟩
            have sw11 : w10.heap.size ≤ w11.heap.size := bw11.size
            have L_42 := Lib.hid (L_37.out.same (SameIn.below bw11 (by omega)))
            clear L_37
            have L_43 := Lib.hid (L_38.out.same (SameIn.below bw11 (by omega)))
            clear L_38
            have L_44 := Lib.hid (L_39.out.same (SameIn.below bw11 (by omega)))
            clear L_39
            have L_45 := Lib.hid (L_40.out.same (SameIn.below bw11 (by omega)))
            clear L_40
            have BL_46 := Lib.hid (BL_41.out.trans (bw11.mono (by omega)))
            clear BL_41 bw11
            go_wp2
            go_ret
            exact ⟨rfl, BL_46.out⟩
end Go.Proofs.Ytmfdflkpbejpoaa
