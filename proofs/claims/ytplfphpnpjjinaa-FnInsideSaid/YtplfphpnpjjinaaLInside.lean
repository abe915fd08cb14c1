/- The law FnInside of the promises: its walk. -/
import Derived.Test.YtplfphpnpjjinaaSame
import Derived.Test.YtplfphpnpjjinaaRegI
import Derived.Test.YtplfphpnpjjinaaRegN
import Derived.Test.YtplfphpnpjjinaaRegO
import Derived.Test.YtplfphpnpjjinaaRegE
import Derived.Test.YtplfphpnpjjinaaRegS
import Derived.Test.YtplfphpnpjjinaaDrawH
import Derived.Test.YtplfphpnpjjinaaPBase
namespace Go.Proofs.Ytplfphpnpjjinaa
open Go.RowKit
set_option linter.unusedVariables false

theorem in_high {R C : Nat} {Z : Nat → Int} {hv lv : Int} (hl : lv ≤ hv) {x : Nat} (hx : x < R * C) (h : 0 ≤ numZ R C Z hv x) : ∃ m : Nat, numZ R C Z hv x = m ∧ m < rgN R C Z hv (R * C) ∧ inZ R C Z hv lv m = numZ R C Z lv x := by
  have hz : hv ≤ Z x := by
    apply Classical.byContradiction
    intro e; rw [numZ_no e] at h; omega
  have h1 := numZ_lt (R := R) (C := C) hz (Nat.lt_of_le_of_lt (cmZ_le R C Z hv x) hx)
  refine ⟨(numZ R C Z hv x).toNat, by omega, by omega, ?_⟩
  exact inZ_at hl hx (by omega)
theorem in_chain {R C : Nat} {Z : Nat → Int} {hv md lv : Int} (h1 : lv ≤ md) (h2 : md ≤ hv) {k : Nat} (hk : k < rgN R C Z hv (R * C)) : ∃ m : Nat, inZ R C Z hv md k = m ∧ m < rgN R C Z md (R * C) ∧ inZ R C Z md lv m = inZ R C Z hv lv k := by
  obtain ⟨x, hx, e⟩ := inZ_ex (lv := lv) (Int.le_trans h1 h2) hk
  have hz : hv ≤ Z x := by
    apply Classical.byContradiction
    intro h; rw [numZ_no h] at e; omega
  have hm : md ≤ Z x := Int.le_trans h2 hz
  obtain ⟨m, m1, m2, m3⟩ := in_high (hv := md) (lv := lv) h1 hx (numZ_nonneg hm)
  exact ⟨m, by rw [inZ_at h2 hx e, m1], m2, by rw [m3, inZ_at (Int.le_trans h1 h2) hx e]⟩
theorem RdI.at' {lo hi : Nat} {w : World} {a : Option Addr} {n m c : Nat} {Z : Nat → Int} (h : RdI lo hi w (.slice a n c) m Z) {k : Nat} (hk : k < m) (z : Int) (hz : Z k = z) : ∃ b off, a = some ⟨b, off, none⟩ ∧ w.cell? ⟨b, off + k, none⟩ = some (.int .i64 z) ∧ n = m ∧ -9223372036854775808 ≤ z ∧ z ≤ 9223372036854775807 ∧ m ≤ c ∧ c ≤ 9223372036854775807 := by
  obtain ⟨ao, cp, b, off, e1, i2, i3, i4, i5, i6⟩ := h
  simp only [Value.slice.injEq] at e1
  obtain ⟨rfl, e2, rfl⟩ := e1
  obtain ⟨rfl, _, _⟩ := i5 (by omega)
  have := i4 k hk
  exact ⟨b, off, rfl, by rw [i6 k hk, hz], e2, by omega, by omega, i2, i3⟩

set_option maxHeartbeats 4000000 in
set_option maxRecDepth 100000 in
theorem law_FnInside (v : Value) (n : Nat) (w : World) (hv : RdB w.heap.size w v n) : Calls Try.prog 6 #[v] w (LawPost w) := by
  have HD := Lib.hid (draw_DrawLevelInside v n w.heap.size w hv (Nat.le_refl _))
  obtain ⟨ao, cap, cb, off, Z, rfl, hc1, hc2, _⟩ := hv
  by_cases hn : 1048576 < n
  · have hn' : (1048576 : Int) < n := by omega
    go_enter Try.func6, Try.ntmps6
    go_wp2
    go_ret
    exact ⟨rfl, Below.refl _ _⟩
  · have hn' : ¬ (1048576 : Int) < n := by omega
    go_enter Try.func6, Try.ntmps6
    go_wp2_with fail
    refine HD.out.mono ?_
    rintro e w1 ⟨vg, g, hv, lv, rfl, _, hm, hgn, hgl, ⟨hk1, hk2⟩, ⟨hs1, hs2⟩, bw1⟩
    obtain ⟨bg, og, cg, rfl⟩ := hm.shape (by omega)
    have R_g := Lib.hid hm
    obtain ⟨hgn1, hgn5⟩ := hgn
    clear hm hgl HD
    have sw1 : w.heap.size ≤ w1.heap.size := bw1.size
    have BL := Lib.hid bw1
    clear bw1
    by_cases hok : g.InOk hv lv
    case neg =>
      have HE := Lib.hid (G.inB_no hok)
      have HZ := Lib.hid (G.inN_no hok)
      clear hok
      go_wp2_with fail
      refine (implLevelInside_any _ 0 w1.heap.size g hv lv _ (R_g.out.mono (Nat.zero_le _) (by omega)) (Nat.le_refl _)).mono ?_
      rintro e w2 ⟨v_o, rfl, _, hl, bw2⟩
      rw [HZ.out] at hl
      rw [HE.out]
      obtain ⟨a_o, c_o, rfl⟩ := hl.shapeN
      have Nw2 := Lib.hid hl.rd
      clear hl
      have sw2 : w1.heap.size ≤ w2.heap.size := bw2.size
      have L_1 := Lib.hid (R_g.out.same (SameIn.below bw2 (by omega)))
      clear R_g
      have BL_2 := Lib.hid (BL.out.trans (bw2.mono (by omega)))
      clear BL bw2
      go_wp2_with fail
      refine (specLevelInside_any _ 0 w2.heap.size g hv lv _ (L_1.out.mono (Nat.zero_le _) (by omega)) (Nat.le_refl _)).mono ?_
      rintro e w3 ⟨v_p, rfl, _, hl, bw3⟩
      rw [HZ.out] at hl
      rw [HE.out]
      obtain ⟨a_p, c_p, rfl⟩ := hl.shapeN
      have Nw3 := Lib.hid hl.rd
      clear hl
      have sw3 : w2.heap.size ≤ w3.heap.size := bw3.size
      have L_3 := Lib.hid (L_1.out.same (SameIn.below bw3 (by omega)))
      clear L_1
      have L_4 := Lib.hid (Nw2.out.same (SameIn.below bw3 (by omega)))
      clear Nw2
      have BL_5 := Lib.hid (BL_2.out.trans (bw3.mono (by omega)))
      clear BL_2 bw3
      go_wp2_with fail
      refine (sameInts_any _ _ _ _ _ _ (0) _ _ _ L_4.out Nw3.out (fun _ _ => rfl)).mono ?_
      rintro e w4 ⟨rfl, qw4, rfl⟩
      have bw4 := below_drewN (Below.refl w3.heap.size w3) qw4
      obtain ⟨w_w4, ew⟩ : ∃ w', w' = w3.drewN qw4 := ⟨_, rfl⟩
      rw [← ew] at bw4 ⊢
      clear ew
      have sw_w4 : w3.heap.size ≤ w_w4.heap.size := bw4.size
      have L_6 := Lib.hid (L_3.out.same (SameIn.below bw4 (by omega)))
      clear L_3
      have L_7 := Lib.hid (L_4.out.same (SameIn.below bw4 (by omega)))
      clear L_4
      have L_8 := Lib.hid (Nw3.out.same (SameIn.below bw4 (by omega)))
      clear Nw3
      have BL_9 := Lib.hid (BL_5.out.trans (bw4.mono (by omega)))
      clear BL_5 bw4
      go_wp2_with fail
      refine (sameInts_any _ _ _ _ _ _ (0) _ _ _ L_7.out L_8.out (fun _ _ => rfl)).mono ?_
      rintro e w5 ⟨rfl, qw5, rfl⟩
      have bw5 := below_drewN (Below.refl w_w4.heap.size w_w4) qw5
      obtain ⟨w_w5, ew⟩ : ∃ w', w' = w_w4.drewN qw5 := ⟨_, rfl⟩
      rw [← ew] at bw5 ⊢
      clear ew
      have sw_w5 : w_w4.heap.size ≤ w_w5.heap.size := bw5.size
      have L_10 := Lib.hid (L_6.out.same (SameIn.below bw5 (by omega)))
      clear L_6
      have L_11 := Lib.hid (L_7.out.same (SameIn.below bw5 (by omega)))
      clear L_7
      have L_12 := Lib.hid (L_8.out.same (SameIn.below bw5 (by omega)))
      clear L_8
      have BL_13 := Lib.hid (BL_9.out.trans (bw5.mono (by omega)))
      clear BL_9 bw5
      go_wp2
      go_ret
      exact ⟨rfl, BL_13.out⟩
    case pos =>
      have HE := Lib.hid (G.inB_yes hok)
      have hv0 : 0 ≤ lv ∧ lv < hv ∧ hv ≤ 99 := ⟨hok.2.1.2.1, hok.2.2, hok.1.2.2⟩
      have h49 := mul_le_49 hok.1.1.1.2 hok.1.1.2.1.2
      obtain ⟨R, eR⟩ : ∃ R, g.n = R := ⟨_, rfl⟩
      obtain ⟨C, eC⟩ : ∃ C, g.len 0 = C := ⟨_, rfl⟩
      obtain ⟨N, eN⟩ : ∃ N, R * C = N := ⟨_, rfl⟩
      obtain ⟨M, eM⟩ : ∃ M, rgN R C g.flat hv N = M := ⟨_, rfl⟩
      have HZ := Lib.hid (show g.inN hv lv = M by rw [G.inN_yes hok, eR, eC, eN, eM])
      have HNH := Lib.hid (show g.nmN hv = N by rw [G.nmN_yes hok.1, eR, eC, eN])
      have HNL := Lib.hid (show g.nmN lv = N by rw [G.nmN_yes hok.2.1, eR, eC, eN])
      have HBH := Lib.hid (G.lvB_yes hok.1)
      have HBL := Lib.hid (G.lvB_yes hok.2.1)
      have HRG := Lib.hid (show g.rgV hv = (M : Int) by rw [G.rgV_yes hok.1, eR, eC, eN, eM])
      have EZN := Lib.hid (fun q => show numZ g.n (g.len 0) g.flat q = numZ R C g.flat q by rw [eR, eC])
      have EIN := Lib.hid (fun p q => show inZ g.n (g.len 0) g.flat p q = inZ R C g.flat p q by rw [eR, eC])
      have HHI := Lib.hid (fun (x : Nat) (hx : x < N) (h : 0 ≤ numZ R C g.flat hv x) => show ∃ m : Nat, numZ R C g.flat hv x = m ∧ m < M ∧ inZ R C g.flat hv lv m = numZ R C g.flat lv x by
        rw [← eM, ← eN]; exact in_high (by omega) (by rw [eN]; exact hx) h)
      have HMD := Lib.hid (fun (h : lv + 2 ≤ hv) => show ∃ D : Nat, D ≤ 49 ∧ g.inB hv (lv + 1) = true ∧ g.inB (lv + 1) lv = true ∧ g.inN hv (lv + 1) = M ∧ g.inN (lv + 1) lv = D ∧ ∀ k, k < M → ∃ m : Nat, inZ R C g.flat hv (lv + 1) k = m ∧ m < D ∧ inZ R C g.flat (lv + 1) lv m = inZ R C g.flat hv lv k by
        have k1 : g.InOk hv (lv + 1) := ⟨hok.1, ⟨hok.1.1, by omega, by omega⟩, by omega⟩
        have k2 : g.InOk (lv + 1) lv := ⟨⟨hok.1.1, by omega, by omega⟩, hok.2.1, by omega⟩
        refine ⟨rgN R C g.flat (lv + 1) N, Nat.le_trans (rgN_le _ _ _ _ _) (by rw [← eN, ← eR, ← eC]; exact h49), G.inB_yes k1, G.inB_yes k2, by rw [G.inN_yes k1, eR, eC, eN, eM], by rw [G.inN_yes k2, eR, eC, eN], fun k hk => ?_⟩
        rw [← eN]
        exact in_chain (by omega) (by omega) (by rw [eN, eM]; exact hk))
      have hM49 : M ≤ 49 := by rw [← eM]; exact Nat.le_trans (rgN_le _ _ _ _ _) (by rw [← eN, ← eR, ← eC]; exact h49)
      rw [eR, eC, eN] at h49
      obtain ⟨hv1, hv2, hv3⟩ := hv0
      clear hok eR eC eN eM
      go_wp2_with fail
      refine (implLevelInside_any _ 0 w1.heap.size g hv lv _ (R_g.out.mono (Nat.zero_le _) (by omega)) (Nat.le_refl _)).mono ?_
      rintro e w2 ⟨v_o, rfl, _, hl, bw2⟩
      rw [HZ.out, EIN.out] at hl
      rw [HE.out]
      obtain ⟨a_o, c_o, rfl⟩ := hl.shapeN
      have Nw2 := Lib.hid hl.rd
      clear hl
      have sw2 : w1.heap.size ≤ w2.heap.size := bw2.size
      have L_1 := Lib.hid (R_g.out.same (SameIn.below bw2 (by omega)))
      clear R_g
      have BL_2 := Lib.hid (BL.out.trans (bw2.mono (by omega)))
      clear BL bw2
      go_wp2_with fail
      refine (specLevelInside_any _ 0 w2.heap.size g hv lv _ (L_1.out.mono (Nat.zero_le _) (by omega)) (Nat.le_refl _)).mono ?_
      rintro e w3 ⟨v_p, rfl, _, hl, bw3⟩
      rw [HZ.out, EIN.out] at hl
      rw [HE.out]
      obtain ⟨a_p, c_p, rfl⟩ := hl.shapeN
      have Nw3 := Lib.hid hl.rd
      clear hl
      have sw3 : w2.heap.size ≤ w3.heap.size := bw3.size
      have L_3 := Lib.hid (L_1.out.same (SameIn.below bw3 (by omega)))
      clear L_1
      have L_4 := Lib.hid (Nw2.out.same (SameIn.below bw3 (by omega)))
      clear Nw2
      have BL_5 := Lib.hid (BL_2.out.trans (bw3.mono (by omega)))
      clear BL_2 bw3
      go_wp2_with fail
      refine (sameInts_any _ _ _ _ _ _ (M) _ _ _ L_4.out Nw3.out (fun _ _ => rfl)).mono ?_
      rintro e w4 ⟨rfl, qw4, rfl⟩
      have bw4 := below_drewN (Below.refl w3.heap.size w3) qw4
      obtain ⟨w_w4, ew⟩ : ∃ w', w' = w3.drewN qw4 := ⟨_, rfl⟩
      rw [← ew] at bw4 ⊢
      clear ew
      have sw_w4 : w3.heap.size ≤ w_w4.heap.size := bw4.size
      have L_6 := Lib.hid (L_3.out.same (SameIn.below bw4 (by omega)))
      clear L_3
      have L_7 := Lib.hid (L_4.out.same (SameIn.below bw4 (by omega)))
      clear L_4
      have L_8 := Lib.hid (Nw3.out.same (SameIn.below bw4 (by omega)))
      clear Nw3
      have BL_9 := Lib.hid (BL_5.out.trans (bw4.mono (by omega)))
      clear BL_5 bw4
      go_wp2_with fail
      refine (implLevelNumbers_any _ 0 w_w4.heap.size g hv _ (L_6.out.mono (Nat.zero_le _) (by omega)) (Nat.le_refl _)).mono ?_
      rintro e w5 ⟨v_h, rfl, _, hl, bw5⟩
      rw [HNH.out, EZN.out] at hl
      rw [HBH.out]
      obtain ⟨a_h, c_h, rfl⟩ := hl.shapeN
      have Nw5 := Lib.hid hl.rd
      clear hl
      have sw5 : w_w4.heap.size ≤ w5.heap.size := bw5.size
      have L_10 := Lib.hid (L_6.out.same (SameIn.below bw5 (by omega)))
      clear L_6
      have L_11 := Lib.hid (L_7.out.same (SameIn.below bw5 (by omega)))
      clear L_7
      have BL_12 := Lib.hid (BL_9.out.trans (bw5.mono (by omega)))
      clear BL_9 bw5
      go_wp2_with fail
      refine (implLevelNumbers_any _ 0 w5.heap.size g lv _ (L_10.out.mono (Nat.zero_le _) (by omega)) (Nat.le_refl _)).mono ?_
      rintro e w6 ⟨v_l, rfl, _, hl, bw6⟩
      rw [HNL.out, EZN.out] at hl
      rw [HBL.out]
      obtain ⟨a_l, c_l, rfl⟩ := hl.shapeN
      have Nw6 := Lib.hid hl.rd
      clear hl
      have sw6 : w5.heap.size ≤ w6.heap.size := bw6.size
      have L_13 := Lib.hid (L_10.out.same (SameIn.below bw6 (by omega)))
      clear L_10
      have L_14 := Lib.hid (L_11.out.same (SameIn.below bw6 (by omega)))
      clear L_11
      have L_15 := Lib.hid (Nw5.out.same (SameIn.below bw6 (by omega)))
      clear Nw5
      have BL_16 := Lib.hid (BL_12.out.trans (bw6.mono (by omega)))
      clear BL_12 bw6
      go_wp2
      go_loopw [14] (fun b wr => ∃ (k m : Nat), k ≤ N ∧ b = .int .i64 k ∧ wr = w6.drewN m) (fun b _ => N - (intOf b).toNat)
      case atStart => exact ⟨0, 0, Nat.zero_le _, rfl, rfl⟩
      case round =>
        obtain ⟨k, m, hk, rfl, rfl⟩ := hrel
        by_cases hlt : k < N
        case pos =>
          have hlt' : (k : Int) < N := by omega
          obtain ⟨z, ez⟩ : ∃ z, numZ R C g.flat hv k = z := ⟨_, rfl⟩
          obtain ⟨y, ey⟩ : ∃ y, numZ R C g.flat lv k = y := ⟨_, rfl⟩
          obtain ⟨bh, oh, rfl, ch, _, rh1, rh2, _, rh4⟩ := L_15.out.at' hlt z ez
          by_cases hz : 0 ≤ z
          · obtain ⟨m1, e1, e2, e3⟩ := HHI.out k hlt (by rw [ez]; exact hz)
            rw [ez] at e1
            subst e1
            obtain ⟨bl, ol, rfl, cl, _, rl1, rl2, _, rl4⟩ := Nw6.out.at' hlt y ey
            obtain ⟨bo, oo, rfl, co, _, ro1, ro2, _, ro4⟩ := L_14.out.at' e2 y (by rw [e3, ey])
            have e2' : (m1 : Int) < M := by omega
            have hn1 : ((N : Int) != N) = false := by simp
            have hn2 : (y != y) = false := by simp
            clear e3 ez ey
            go_wp2_with fail
            have hg1 : decide ((0 : Int) ≤ (m1 : Int)) = true := by simp
            go_quiet (fail)
            go_wp2
            go_roundw
            case rel => exact ⟨k + 1, _, by omega, by go_num, rfl⟩
            case measure => simp [intOf]; omega
          · obtain rfl : z = -1 := by
              by_cases hl : hv ≤ g.flat k
              · exact absurd (by rw [← ez]; exact numZ_nonneg hl) hz
              · rw [← ez]; exact numZ_no hl
            clear ez ey hz
            go_wp2_with fail
            have hg1 : decide ((0 : Int) ≤ (-1 : Int)) = false := by simp
            go_quiet (fail)
            go_wp2
            go_roundw
            case rel => exact ⟨k + 1, _, by omega, by go_num, rfl⟩
            case measure => simp [intOf]; omega
        case neg =>
          have hge : ¬ (k : Int) < N := by omega
          have B1 := Lib.hid (BL_16.out.trans ((below_drewN (Below.refl w6.heap.size w6) m).mono (by omega)))
          have HG := Lib.hid (show RdM 0 w6.heap.size (w6.drewN m) _ g from (L_13.out.same (w' := w6.drewN m) (fun _ _ _ => rfl)).mono (Nat.zero_le _) (by omega))
          have HOm := Lib.hid (L_14.out.same (w' := w6.drewN m) (fun _ _ _ => rfl))
          have hsz : w.heap.size ≤ (w6.drewN m).heap.size := B1.out.size
          have hw1 : IntKind.i64.wrap (hv - lv) = hv - lv := IntWalk.i64_in _ (by omega)
          have hw2 : IntKind.i64.wrap (lv + 1) = lv + 1 := IntWalk.i64_in _ (by omega)
          have hM9 : ((M : Int) == M) = true := by simp
          obtain ⟨wc, ewc⟩ : ∃ w', w' = w6.drewN m := ⟨_, rfl⟩
          rw [← ewc] at B1 HG HOm hsz ⊢
          have hgl : w6.heap.size ≤ wc.heap.size := by rw [ewc]; exact Nat.le_refl _
          clear ewc
          by_cases hd : hv - lv < 2
          case pos =>
            go_wp2_with fail
            refine (implLevelRegions_any _ 0 _ g hv _ HG.out hgl).mono ?_
            rintro e w90 ⟨rfl, b90⟩
            rw [HRG.out]
            have B2 := Lib.hid (B1.out.trans (b90.mono hsz))
            clear b90
            go_wp2
            go_ret
            exact ⟨rfl, B2.out⟩
          case neg =>
            obtain ⟨D, hD49, i1, i2, i3, i4, i5⟩ := HMD.out (by omega)
            have I1 := Lib.hid i1
            have I2 := Lib.hid i2
            have I3 := Lib.hid i3
            have I4 := Lib.hid i4
            have I5 := Lib.hid i5
            clear i1 i2 i3 i4 i5
            go_wp2_with fail
            refine (implLevelInside_any _ 0 _ g hv (lv + 1) _ HG.out hgl).mono ?_
            rintro e w91 ⟨v_a, rfl, _, hl, b91⟩
            rw [I3.out, EIN.out] at hl
            rw [I1.out]
            obtain ⟨a_a, c_a, rfl⟩ := hl.shapeN
            have NA := Lib.hid hl.rd
            have HG2 := Lib.hid (HG.out.same (SameIn.below b91 hgl))
            have HO2 := Lib.hid (HOm.out.same (SameIn.below b91 (by omega)))
            have B2 := Lib.hid (B1.out.trans (b91.mono hsz))
            have s91 := b91.size
            clear hl b91 HG HOm B1
            go_wp2_with fail
            refine (implLevelInside_any _ 0 _ g (lv + 1) lv _ HG2.out (by omega)).mono ?_
            rintro e w92 ⟨v_b, rfl, _, hl, b92⟩
            rw [I4.out, EIN.out] at hl
            rw [I2.out]
            obtain ⟨a_b, c_b, rfl⟩ := hl.shapeN
            have NB := Lib.hid hl.rd
            have NA2 := Lib.hid (NA.out.same (SameIn.below b92 (Nat.le_refl _)))
            have HG3 := Lib.hid (HG2.out.same (SameIn.below b92 (by omega)))
            have HO3 := Lib.hid (HO2.out.same (SameIn.below b92 (by omega)))
            have B3 := Lib.hid (B2.out.trans (b92.mono (by omega)))
            have s92 := b92.size
            clear hl b92 HG2 HO2 B2 NA
            go_wp2
            go_loopw [19] (fun b wr => ∃ (j p : Nat), j ≤ M ∧ b = .int .i64 j ∧ wr = w92.drewN p) (fun b _ => M - (intOf b).toNat)
            case atStart => exact ⟨0, 0, Nat.zero_le _, rfl, rfl⟩
            case round =>
              obtain ⟨j, p, hj, rfl, rfl⟩ := hrel
              by_cases hjl : j < M
              case pos =>
                have hjl' : (j : Int) < M := by omega
                obtain ⟨q, e1, e2, e3⟩ := I5.out j hjl
                obtain ⟨y, ey⟩ : ∃ y, inZ R C g.flat hv lv j = y := ⟨_, rfl⟩
                obtain ⟨ba, oa, rfl, ca, _, ra1, ra2, _, ra4⟩ := NA2.out.at' hjl q e1
                obtain ⟨bb, ob, rfl, cb, _, rb1, rb2, _, rb4⟩ := NB.out.at' e2 y (by rw [e3, ey])
                obtain ⟨bo, oo, rfl, co, _, ro1, ro2, _, ro4⟩ := HO3.out.at' hjl y ey
                have e2' : (q : Int) < D := by omega
                have hn2 : (y != y) = false := by simp
                clear e1 e3 ey
                go_wp2_with fail
                go_quiet (fail)
                go_wp2
                go_roundw
                case rel => exact ⟨j + 1, _, by omega, by go_num, rfl⟩
                case measure => simp [intOf]; omega
              case neg =>
                have hjn : ¬ (j : Int) < M := by omega
                have HG4 := Lib.hid (HG3.out.same (w' := w92.drewN p) (fun _ _ _ => rfl))
                go_wp2_with fail
                refine (implLevelRegions_any _ 0 _ g hv _ HG4.out (show _ ≤ w92.heap.size by omega)).mono ?_
                rintro e w93 ⟨rfl, b93⟩
                rw [HRG.out]
                have B4 := Lib.hid (B3.out.trans ((below_drewN (Below.refl w92.heap.size w92) p).mono (by omega)) |>.trans (b93.mono (show w.heap.size ≤ w92.heap.size by omega)))
                clear b93
                go_wp2
                go_ret
                exact ⟨rfl, B4.out⟩
end Go.Proofs.Ytplfphpnpjjinaa

